/-
  slices.SortFunc on a row of four ratios.
-/
import Derived.Test.YtogafnfpncbgiaaSpanA
import Derived.Test.YtogafnfpncbgiaaLen64
namespace Go.Proofs.Ytogafnfpncbgiaa
open Go.RowKit

/-- a row of four ratios -/
def Row4 (W : World) (g : Nat) (E : Nat → Rc) : Prop := W.heap[g]? = some (.cells #[.bool (E 0).s, .slice (E 0).A (E 0).n (E 0).c, .slice (E 0).B (E 0).m (E 0).d, .bool (E 1).s, .slice (E 1).A (E 1).n (E 1).c, .slice (E 1).B (E 1).m (E 1).d, .bool (E 2).s, .slice (E 2).A (E 2).n (E 2).c, .slice (E 2).B (E 2).m (E 2).d, .bool (E 3).s, .slice (E 3).A (E 3).n (E 3).c, .slice (E 3).B (E 3).m (E 3).d] 27 (0, 0))
theorem Row4.lt {W : World} {g : Nat} {E : Nat → Rc} (h : Row4 W g E) : g < W.heap.size := (Array.getElem?_eq_some_iff.1 h).1
theorem Row4.free {W : World} {g : Nat} {E : Nat → Rc} (h : Row4 W g E) (i : Nat) : W.frozen? ⟨g, i, none⟩ = false := frozen_of_row W g i _ _ h
theorem Row4.keep {W W' : World} {g : Nat} {E : Nat → Rc} (h : Row4 W g E) (hb : Below W.heap.size W W') : Row4 W' g E := (hb.block g h.lt).trans h
theorem Row4.drewN {W : World} {g : Nat} {E : Nat → Rc} (h : Row4 W g E) (n : Nat) : Row4 (W.drewN n) g E := h
theorem Row4.c0 {W : World} {g : Nat} {E : Nat → Rc} (h : Row4 W g E) : W.cell? ⟨g, 0, none⟩ = some (.bool (E 0).s) := by rw [cell_of_row W g 0 _ _ _ h]; rfl
theorem Row4.c1 {W : World} {g : Nat} {E : Nat → Rc} (h : Row4 W g E) : W.cell? ⟨g, 1, none⟩ = some (.slice (E 0).A (E 0).n (E 0).c) := by rw [cell_of_row W g 1 _ _ _ h]; rfl
theorem Row4.c2 {W : World} {g : Nat} {E : Nat → Rc} (h : Row4 W g E) : W.cell? ⟨g, 2, none⟩ = some (.slice (E 0).B (E 0).m (E 0).d) := by rw [cell_of_row W g 2 _ _ _ h]; rfl
theorem Row4.c3 {W : World} {g : Nat} {E : Nat → Rc} (h : Row4 W g E) : W.cell? ⟨g, 3, none⟩ = some (.bool (E 1).s) := by rw [cell_of_row W g 3 _ _ _ h]; rfl
theorem Row4.c4 {W : World} {g : Nat} {E : Nat → Rc} (h : Row4 W g E) : W.cell? ⟨g, 4, none⟩ = some (.slice (E 1).A (E 1).n (E 1).c) := by rw [cell_of_row W g 4 _ _ _ h]; rfl
theorem Row4.c5 {W : World} {g : Nat} {E : Nat → Rc} (h : Row4 W g E) : W.cell? ⟨g, 5, none⟩ = some (.slice (E 1).B (E 1).m (E 1).d) := by rw [cell_of_row W g 5 _ _ _ h]; rfl
theorem Row4.c6 {W : World} {g : Nat} {E : Nat → Rc} (h : Row4 W g E) : W.cell? ⟨g, 6, none⟩ = some (.bool (E 2).s) := by rw [cell_of_row W g 6 _ _ _ h]; rfl
theorem Row4.c7 {W : World} {g : Nat} {E : Nat → Rc} (h : Row4 W g E) : W.cell? ⟨g, 7, none⟩ = some (.slice (E 2).A (E 2).n (E 2).c) := by rw [cell_of_row W g 7 _ _ _ h]; rfl
theorem Row4.c8 {W : World} {g : Nat} {E : Nat → Rc} (h : Row4 W g E) : W.cell? ⟨g, 8, none⟩ = some (.slice (E 2).B (E 2).m (E 2).d) := by rw [cell_of_row W g 8 _ _ _ h]; rfl
theorem Row4.c9 {W : World} {g : Nat} {E : Nat → Rc} (h : Row4 W g E) : W.cell? ⟨g, 9, none⟩ = some (.bool (E 3).s) := by rw [cell_of_row W g 9 _ _ _ h]; rfl
theorem Row4.c10 {W : World} {g : Nat} {E : Nat → Rc} (h : Row4 W g E) : W.cell? ⟨g, 10, none⟩ = some (.slice (E 3).A (E 3).n (E 3).c) := by rw [cell_of_row W g 10 _ _ _ h]; rfl
theorem Row4.c11 {W : World} {g : Nat} {E : Nat → Rc} (h : Row4 W g E) : W.cell? ⟨g, 11, none⟩ = some (.slice (E 3).B (E 3).m (E 3).d) := by rw [cell_of_row W g 11 _ _ _ h]; rfl
/-- elements j - 1 and j change places -/
def swp {α : Type} (j : Nat) (f : Nat → α) : Nat → α := fun k => if k = j then f (j - 1) else if k + 1 = j then f j else f k
theorem Row4.swap1 {W : World} {g : Nat} {E : Nat → Rc} (h : Row4 W g E) : Row4 ((((((W.setCell ⟨g, 3, none⟩ (.bool (E 0).s)).setCell ⟨g, 4, none⟩ (.slice (E 0).A (E 0).n (E 0).c)).setCell ⟨g, 5, none⟩ (.slice (E 0).B (E 0).m (E 0).d)).setCell ⟨g, 0, none⟩ (.bool (E 1).s)).setCell ⟨g, 1, none⟩ (.slice (E 1).A (E 1).n (E 1).c)).setCell ⟨g, 2, none⟩ (.slice (E 1).B (E 1).m (E 1).d)) g (swp 1 E) := heap_setCell_same _ g 2 _ _ (.slice (E 1).B (E 1).m (E 1).d) (heap_setCell_same _ g 1 _ _ (.slice (E 1).A (E 1).n (E 1).c) (heap_setCell_same _ g 0 _ _ (.bool (E 1).s) (heap_setCell_same _ g 5 _ _ (.slice (E 0).B (E 0).m (E 0).d) (heap_setCell_same _ g 4 _ _ (.slice (E 0).A (E 0).n (E 0).c) (heap_setCell_same _ g 3 _ _ (.bool (E 0).s) h)))))
theorem Row4.swap2 {W : World} {g : Nat} {E : Nat → Rc} (h : Row4 W g E) : Row4 ((((((W.setCell ⟨g, 6, none⟩ (.bool (E 1).s)).setCell ⟨g, 7, none⟩ (.slice (E 1).A (E 1).n (E 1).c)).setCell ⟨g, 8, none⟩ (.slice (E 1).B (E 1).m (E 1).d)).setCell ⟨g, 3, none⟩ (.bool (E 2).s)).setCell ⟨g, 4, none⟩ (.slice (E 2).A (E 2).n (E 2).c)).setCell ⟨g, 5, none⟩ (.slice (E 2).B (E 2).m (E 2).d)) g (swp 2 E) := heap_setCell_same _ g 5 _ _ (.slice (E 2).B (E 2).m (E 2).d) (heap_setCell_same _ g 4 _ _ (.slice (E 2).A (E 2).n (E 2).c) (heap_setCell_same _ g 3 _ _ (.bool (E 2).s) (heap_setCell_same _ g 8 _ _ (.slice (E 1).B (E 1).m (E 1).d) (heap_setCell_same _ g 7 _ _ (.slice (E 1).A (E 1).n (E 1).c) (heap_setCell_same _ g 6 _ _ (.bool (E 1).s) h)))))
theorem Row4.swap3 {W : World} {g : Nat} {E : Nat → Rc} (h : Row4 W g E) : Row4 ((((((W.setCell ⟨g, 9, none⟩ (.bool (E 2).s)).setCell ⟨g, 10, none⟩ (.slice (E 2).A (E 2).n (E 2).c)).setCell ⟨g, 11, none⟩ (.slice (E 2).B (E 2).m (E 2).d)).setCell ⟨g, 6, none⟩ (.bool (E 3).s)).setCell ⟨g, 7, none⟩ (.slice (E 3).A (E 3).n (E 3).c)).setCell ⟨g, 8, none⟩ (.slice (E 3).B (E 3).m (E 3).d)) g (swp 3 E) := heap_setCell_same _ g 8 _ _ (.slice (E 3).B (E 3).m (E 3).d) (heap_setCell_same _ g 7 _ _ (.slice (E 3).A (E 3).n (E 3).c) (heap_setCell_same _ g 6 _ _ (.bool (E 3).s) (heap_setCell_same _ g 11 _ _ (.slice (E 2).B (E 2).m (E 2).d) (heap_setCell_same _ g 10 _ _ (.slice (E 2).A (E 2).n (E 2).c) (heap_setCell_same _ g 9 _ _ (.bool (E 2).s) h)))))
theorem swp_all {α β : Type} {P : α → β → Prop} {E : Nat → α} {v : Nat → β} {j : Nat} (hj : 0 < j) (hj4 : j < 4) (h : ∀ k, k < 4 → P (E k) (v k)) : ∀ k, k < 4 → P (swp j E k) (swp j v k) := by
  intro k hk
  unfold swp
  by_cases h1 : k = j
  · simp only [if_pos h1]; exact h _ (by omega)
  · by_cases h2 : k + 1 = j
    · simp only [if_neg h1, if_pos h2]; exact h _ hj4
    · simp only [if_neg h1, if_neg h2]; exact h _ hk
theorem swp_other {α : Type} {j k : Nat} (f : Nat → α) (h1 : k ≠ j) (h2 : k + 1 ≠ j) : swp j f k = f k := by unfold swp; rw [if_neg h1, if_neg h2]
theorem swp_at {α : Type} (j : Nat) (f : Nat → α) : swp j f j = f (j - 1) := if_pos rfl
theorem swp_below {α : Type} {j k : Nat} (f : Nat → α) (h : k + 1 = j) : swp j f k = f j := by unfold swp; rw [if_neg (by omega), if_pos h]
/-- sorted up to i, but for what stands at j -/
def Sd (v : Nat → Rat) (i j : Nat) : Prop := ∀ k l, k < l → l ≤ i → l ≠ j → v k ≤ v l
def So (v : Nat → Rat) (i : Nat) : Prop := ∀ k l, k < l → l < i → v k ≤ v l
theorem So.start {v : Nat → Rat} {i : Nat} (h : So v i) : Sd v i i := fun k l hk hl hn => h k l hk (by omega)
theorem Sd.zero {v : Nat → Rat} {i : Nat} (h : Sd v i 0) : So v (i + 1) := fun k l hk hl => h k l hk (by omega) (by omega)
theorem Sd.stop {v : Nat → Rat} {i j : Nat} (h : Sd v i j) (hj : 0 < j) (hji : j ≤ i) (hle : v (j - 1) ≤ v j) : So v (i + 1) := by
  intro k l hk hl
  by_cases hlj : l = j
  · subst hlj
    by_cases hkl : k = l - 1
    · rw [hkl]; exact hle
    · exact Rat.le_trans (h k (l - 1) (by omega) (by omega) (by omega)) hle
  · exact h k l hk (by omega) hlj
theorem Sd.swap {v : Nat → Rat} {i j : Nat} (h : Sd v i j) (hj : 0 < j) (hji : j ≤ i) (hlt : v j < v (j - 1)) : Sd (swp j v) i (j - 1) := by
  intro k l hk hl hn
  by_cases hlj : l = j
  · subst hlj
    rw [swp_at]
    by_cases hkl : k + 1 = l
    · rw [swp_below v hkl]; exact Rat.le_of_lt hlt
    · rw [swp_other v (by omega) hkl]; exact h k (l - 1) (by omega) (by omega) (by omega)
  · rw [swp_other v hlj (by omega)]
    by_cases hkj : k = j
    · subst hkj; rw [swp_at]; exact h (k - 1) l (by omega) hl hlj
    · by_cases hk1 : k + 1 = j
      · rw [swp_below v hk1]; exact h j l (by omega) hl hlj
      · rw [swp_other v hkj hk1]; exact h k l hk hl hlj
/-- the least, the greatest of four -/
def mn4 (a b c d : Rat) : Rat := rlo (rlo a b) (rlo c d)
def mx4 (a b c d : Rat) : Rat := rhi (rhi a b) (rhi c d)
def mn (v : Nat → Rat) : Rat := mn4 (v 0) (v 1) (v 2) (v 3)
def mx (v : Nat → Rat) : Rat := mx4 (v 0) (v 1) (v 2) (v 3)
theorem rlo_comm (a b : Rat) : rlo a b = rlo b a := by unfold rlo; grind
theorem rhi_comm (a b : Rat) : rhi a b = rhi b a := by unfold rhi; grind
theorem mn4_mid (a b c d : Rat) : mn4 a c b d = mn4 a b c d := by unfold mn4 rlo; grind
theorem mx4_mid (a b c d : Rat) : mx4 a c b d = mx4 a b c d := by unfold mx4 rhi; grind
theorem mn_swp {v : Nat → Rat} {j : Nat} (hj : 0 < j) (hj4 : j < 4) : mn (swp j v) = mn v := by
  obtain rfl | rfl | rfl : j = 1 ∨ j = 2 ∨ j = 3 := by omega
  · show mn4 (v 1) (v 0) (v 2) (v 3) = mn4 (v 0) (v 1) (v 2) (v 3); unfold mn4; rw [rlo_comm (v 1)]
  · show mn4 (v 0) (v 2) (v 1) (v 3) = mn4 (v 0) (v 1) (v 2) (v 3); exact mn4_mid _ _ _ _
  · show mn4 (v 0) (v 1) (v 3) (v 2) = mn4 (v 0) (v 1) (v 2) (v 3); unfold mn4; rw [rlo_comm (v 3)]
theorem mx_swp {v : Nat → Rat} {j : Nat} (hj : 0 < j) (hj4 : j < 4) : mx (swp j v) = mx v := by
  obtain rfl | rfl | rfl : j = 1 ∨ j = 2 ∨ j = 3 := by omega
  · show mx4 (v 1) (v 0) (v 2) (v 3) = mx4 (v 0) (v 1) (v 2) (v 3); unfold mx4; rw [rhi_comm (v 1)]
  · show mx4 (v 0) (v 2) (v 1) (v 3) = mx4 (v 0) (v 1) (v 2) (v 3); exact mx4_mid _ _ _ _
  · show mx4 (v 0) (v 1) (v 3) (v 2) = mx4 (v 0) (v 1) (v 2) (v 3); unfold mx4; rw [rhi_comm (v 3)]
theorem So.mn {v : Nat → Rat} (h : So v 4) : v 0 = mn v := by
  have h1 := h 0 1 (by omega) (by omega)
  have h2 := h 2 3 (by omega) (by omega)
  have h3 := h 0 2 (by omega) (by omega)
  unfold Go.Proofs.Ytogafnfpncbgiaa.mn mn4
  rw [rlo_of_le h1, rlo_of_le h2, rlo_of_le h3]
theorem So.mx {v : Nat → Rat} (h : So v 4) : v 3 = mx v := by
  have h1 := h 0 1 (by omega) (by omega)
  have h2 := h 2 3 (by omega) (by omega)
  have h3 := h 1 3 (by omega) (by omega)
  unfold Go.Proofs.Ytogafnfpncbgiaa.mx mx4
  rw [rhi_of_le h1, rhi_of_le h2, rhi_of_le h3]
theorem Nq.below {w w' : World} {Bd L : Nat} {x : Rc} {q : Rat} (h : Nq w Bd L x q) (hb : Below Bd w w') : Nq w' Bd L x q := ⟨h.1, h.2.1.below hb, h.2.2.1.below hb, h.2.2.2⟩
/-- the sort's state -/
structure Sr (w wr : World) (g L : Nat) (E : Nat → Rc) (v : Nat → Rat) (a b : Rat) : Prop where
  row : Row4 wr g E
  num : ∀ k, k < 4 → Nq wr g L (E k) (v k)
  mn : mn v = a
  mx : mx v = b
  bel : Below g w wr
theorem Sr.next {w wr w' : World} {g L : Nat} {E : Nat → Rc} {v : Nat → Rat} {a b : Rat} (h : Sr w wr g L E v a b) (hb : Below wr.heap.size wr w') : Sr w w' g L E v a b :=
  have hg := hb.mono (Nat.le_of_lt h.row.lt)
  ⟨h.row.keep hb, fun k hk => (h.num k hk).below hg, h.mn, h.mx, h.bel.trans hg⟩
theorem Sr.swap1 {w wr : World} {g L : Nat} {E : Nat → Rc} {v : Nat → Rat} {a b : Rat} (h : Sr w wr g L E v a b) : Sr w ((((((wr.setCell ⟨g, 3, none⟩ (.bool (E 0).s)).setCell ⟨g, 4, none⟩ (.slice (E 0).A (E 0).n (E 0).c)).setCell ⟨g, 5, none⟩ (.slice (E 0).B (E 0).m (E 0).d)).setCell ⟨g, 0, none⟩ (.bool (E 1).s)).setCell ⟨g, 1, none⟩ (.slice (E 1).A (E 1).n (E 1).c)).setCell ⟨g, 2, none⟩ (.slice (E 1).B (E 1).m (E 1).d)) g L (swp 1 E) (swp 1 v) a b :=
  have hb : Below g wr ((((((wr.setCell ⟨g, 3, none⟩ (.bool (E 0).s)).setCell ⟨g, 4, none⟩ (.slice (E 0).A (E 0).n (E 0).c)).setCell ⟨g, 5, none⟩ (.slice (E 0).B (E 0).m (E 0).d)).setCell ⟨g, 0, none⟩ (.bool (E 1).s)).setCell ⟨g, 1, none⟩ (.slice (E 1).A (E 1).n (E 1).c)).setCell ⟨g, 2, none⟩ (.slice (E 1).B (E 1).m (E 1).d)) := (((((((Below.refl g wr).setCell (Nat.le_refl g) _).setCell (Nat.le_refl g) _).setCell (Nat.le_refl g) _).setCell (Nat.le_refl g) _).setCell (Nat.le_refl g) _).setCell (Nat.le_refl g) _)
  ⟨h.row.swap1, fun k hk => (swp_all (P := fun x q => Nq wr g L x q) (by omega) (by omega) h.num k hk).below hb, (mn_swp (by omega) (by omega)).trans h.mn, (mx_swp (by omega) (by omega)).trans h.mx, h.bel.trans hb⟩
theorem Sr.swap2 {w wr : World} {g L : Nat} {E : Nat → Rc} {v : Nat → Rat} {a b : Rat} (h : Sr w wr g L E v a b) : Sr w ((((((wr.setCell ⟨g, 6, none⟩ (.bool (E 1).s)).setCell ⟨g, 7, none⟩ (.slice (E 1).A (E 1).n (E 1).c)).setCell ⟨g, 8, none⟩ (.slice (E 1).B (E 1).m (E 1).d)).setCell ⟨g, 3, none⟩ (.bool (E 2).s)).setCell ⟨g, 4, none⟩ (.slice (E 2).A (E 2).n (E 2).c)).setCell ⟨g, 5, none⟩ (.slice (E 2).B (E 2).m (E 2).d)) g L (swp 2 E) (swp 2 v) a b :=
  have hb : Below g wr ((((((wr.setCell ⟨g, 6, none⟩ (.bool (E 1).s)).setCell ⟨g, 7, none⟩ (.slice (E 1).A (E 1).n (E 1).c)).setCell ⟨g, 8, none⟩ (.slice (E 1).B (E 1).m (E 1).d)).setCell ⟨g, 3, none⟩ (.bool (E 2).s)).setCell ⟨g, 4, none⟩ (.slice (E 2).A (E 2).n (E 2).c)).setCell ⟨g, 5, none⟩ (.slice (E 2).B (E 2).m (E 2).d)) := (((((((Below.refl g wr).setCell (Nat.le_refl g) _).setCell (Nat.le_refl g) _).setCell (Nat.le_refl g) _).setCell (Nat.le_refl g) _).setCell (Nat.le_refl g) _).setCell (Nat.le_refl g) _)
  ⟨h.row.swap2, fun k hk => (swp_all (P := fun x q => Nq wr g L x q) (by omega) (by omega) h.num k hk).below hb, (mn_swp (by omega) (by omega)).trans h.mn, (mx_swp (by omega) (by omega)).trans h.mx, h.bel.trans hb⟩
theorem Sr.swap3 {w wr : World} {g L : Nat} {E : Nat → Rc} {v : Nat → Rat} {a b : Rat} (h : Sr w wr g L E v a b) : Sr w ((((((wr.setCell ⟨g, 9, none⟩ (.bool (E 2).s)).setCell ⟨g, 10, none⟩ (.slice (E 2).A (E 2).n (E 2).c)).setCell ⟨g, 11, none⟩ (.slice (E 2).B (E 2).m (E 2).d)).setCell ⟨g, 6, none⟩ (.bool (E 3).s)).setCell ⟨g, 7, none⟩ (.slice (E 3).A (E 3).n (E 3).c)).setCell ⟨g, 8, none⟩ (.slice (E 3).B (E 3).m (E 3).d)) g L (swp 3 E) (swp 3 v) a b :=
  have hb : Below g wr ((((((wr.setCell ⟨g, 9, none⟩ (.bool (E 2).s)).setCell ⟨g, 10, none⟩ (.slice (E 2).A (E 2).n (E 2).c)).setCell ⟨g, 11, none⟩ (.slice (E 2).B (E 2).m (E 2).d)).setCell ⟨g, 6, none⟩ (.bool (E 3).s)).setCell ⟨g, 7, none⟩ (.slice (E 3).A (E 3).n (E 3).c)).setCell ⟨g, 8, none⟩ (.slice (E 3).B (E 3).m (E 3).d)) := (((((((Below.refl g wr).setCell (Nat.le_refl g) _).setCell (Nat.le_refl g) _).setCell (Nat.le_refl g) _).setCell (Nat.le_refl g) _).setCell (Nat.le_refl g) _).setCell (Nat.le_refl g) _)
  ⟨h.row.swap3, fun k hk => (swp_all (P := fun x q => Nq wr g L x q) (by omega) (by omega) h.num k hk).below hb, (mn_swp (by omega) (by omega)).trans h.mn, (mx_swp (by omega) (by omega)).trans h.mx, h.bel.trans hb⟩
theorem Row4.at0 {W : World} {g : Nat} {E : Nat → Rc} (h : Row4 W g E) {m : Nat} (hm : m < 3) : W.cell? ⟨g, m * 3, none⟩ = some (.bool (E m).s) := by
  obtain rfl | rfl | rfl : m = 0 ∨ m = 1 ∨ m = 2 := by omega
  · exact h.c0
  · exact h.c3
  · exact h.c6
theorem Row4.at1 {W : World} {g : Nat} {E : Nat → Rc} (h : Row4 W g E) {m : Nat} (hm : m < 3) : W.cell? ⟨g, m * 3 + 1, none⟩ = some (.slice (E m).A (E m).n (E m).c) := by
  obtain rfl | rfl | rfl : m = 0 ∨ m = 1 ∨ m = 2 := by omega
  · exact h.c1
  · exact h.c4
  · exact h.c7
theorem Row4.at2 {W : World} {g : Nat} {E : Nat → Rc} (h : Row4 W g E) {m : Nat} (hm : m < 3) : W.cell? ⟨g, m * 3 + 2, none⟩ = some (.slice (E m).B (E m).m (E m).d) := by
  obtain rfl | rfl | rfl : m = 0 ∨ m = 1 ∨ m = 2 := by omega
  · exact h.c2
  · exact h.c5
  · exact h.c8
theorem Row4.at3 {W : World} {g : Nat} {E : Nat → Rc} (h : Row4 W g E) {m : Nat} (hm : m < 3) : W.cell? ⟨g, (m + 1) * 3, none⟩ = some (.bool (E (m + 1)).s) := by
  obtain rfl | rfl | rfl : m = 0 ∨ m = 1 ∨ m = 2 := by omega
  · exact h.c3
  · exact h.c6
  · exact h.c9
theorem Row4.at4 {W : World} {g : Nat} {E : Nat → Rc} (h : Row4 W g E) {m : Nat} (hm : m < 3) : W.cell? ⟨g, (m + 1) * 3 + 1, none⟩ = some (.slice (E (m + 1)).A (E (m + 1)).n (E (m + 1)).c) := by
  obtain rfl | rfl | rfl : m = 0 ∨ m = 1 ∨ m = 2 := by omega
  · exact h.c4
  · exact h.c7
  · exact h.c10
theorem Row4.at5 {W : World} {g : Nat} {E : Nat → Rc} (h : Row4 W g E) {m : Nat} (hm : m < 3) : W.cell? ⟨g, (m + 1) * 3 + 2, none⟩ = some (.slice (E (m + 1)).B (E (m + 1)).m (E (m + 1)).d) := by
  obtain rfl | rfl | rfl : m = 0 ∨ m = 1 ∨ m = 2 := by omega
  · exact h.c5
  · exact h.c8
  · exact h.c11
theorem Sr.swap {w wr : World} {g L : Nat} {E : Nat → Rc} {v : Nat → Rat} {a b : Rat} (h : Sr w wr g L E v a b) {m : Nat} (hm : m < 3) : Sr w ((((((wr.setCell ⟨g, (m + 1) * 3, none⟩ (.bool (E m).s)).setCell ⟨g, (m + 1) * 3 + 1, none⟩ (.slice (E m).A (E m).n (E m).c)).setCell ⟨g, (m + 1) * 3 + 2, none⟩ (.slice (E m).B (E m).m (E m).d)).setCell ⟨g, m * 3, none⟩ (.bool (E (m + 1)).s)).setCell ⟨g, m * 3 + 1, none⟩ (.slice (E (m + 1)).A (E (m + 1)).n (E (m + 1)).c)).setCell ⟨g, m * 3 + 2, none⟩ (.slice (E (m + 1)).B (E (m + 1)).m (E (m + 1)).d)) g L (swp (m + 1) E) (swp (m + 1) v) a b := by
  obtain rfl | rfl | rfl : m = 0 ∨ m = 1 ∨ m = 2 := by omega
  · exact h.swap1
  · exact h.swap2
  · exact h.swap3

def RetSort (w : World) (g L : Nat) (a b : Rat) (e : Ending) (w' : World) : Prop := e = .returned (.tuple #[]) ∧ ∃ E v, Sr w w' g L E v a b ∧ So v 4
set_option maxHeartbeats 40000000 in
theorem insert_any {w : World} {g L : Nat} {E : Nat → Rc} {v : Nat → Rat} {a b : Rat} (hI : Sr w w g L E v a b) (gL : L ≤ 100000000) :
    Calls Try.prog 73 #[.slice (some ⟨g, 0, none⟩) 4 4, .int .i64 0, .int .i64 4, .func (.func 24) #[] #[]] w (RetSort w g L a b) := by
  replace hI := hide hI
  have gM : L ≤ 400000000 := by omega
  replace gM := hide gM
  clear gL
  go_enter Try.func73, Try.ntmps73
  go_wp2
  go_loopw [8] (fun i wr => ∃ (k : Nat) (E : Nat → Rc) (v : Nat → Rat), 1 ≤ k ∧ k ≤ 4 ∧ i = .int .i64 k ∧ Hid (So v k) ∧ Hid (Sr w wr g L E v a b)) (fun i _ => 4 - (intOf i).toNat)
  case atStart => exact ⟨1, E, v, by omega, by omega, rfl, hide (fun k l hk hl => by omega), hI⟩
  case round =>
    clear hI
    obtain ⟨i, E, v, hi1, hi4, rfl, hS, hI⟩ := hrel
    by_cases hi : i < 4
    · have hdi : decide ((i : Int) < 4) = true := by simp; omega
      go_wp2
      go_loopw [9] (fun jv wr => ∃ (j : Nat) (E : Nat → Rc) (v : Nat → Rat), j ≤ i ∧ jv = .int .i64 j ∧ Hid (Sd v i j) ∧ Hid (Sr w wr g L E v a b)) (fun jv _ => (intOf jv).toNat)
      case atStart => exact ⟨i, E, v, by omega, rfl, hide hS.out.start, hI⟩
      case round =>
        clear hS hI
        obtain ⟨j, E, v, hji, rfl, hS, hI⟩ := hrel
        by_cases hj0 : j = 0
        · subst hj0
          simp only [show ((0 : Nat) : Int) = 0 from rfl]
          go_wp2_with fail
          go_quiet (fail)
          go_wp2
          go_roundw
          case rel => exact ⟨i + 1, E, v, by omega, by omega, by go_num, hide hS.out.zero, hide (hI.out.next (below_drewN (Below.refl _ _) _))⟩
          case measure => simp [intOf]; omega
        · skip
          obtain ⟨m, rfl⟩ : ∃ m, j = m + 1 := ⟨j - 1, by omega⟩
          have hm3 : m < 3 := by omega
          obtain ⟨kc, e_k⟩ : ∃ kc, sgn (v (m + 1) - v m).num = kc := ⟨_, rfl⟩
          replace e_k := hide e_k
          have c0 : ∀ w', Below wr.heap.size wr w' → w'.cell? ⟨g, m * 3, none⟩ = some (.bool (E m).s) := fun w' hb => (hI.out.row.keep hb).at0 hm3
          have c1 : ∀ w', Below wr.heap.size wr w' → w'.cell? ⟨g, m * 3 + 1, none⟩ = some (.slice (E m).A (E m).n (E m).c) := fun w' hb => (hI.out.row.keep hb).at1 hm3
          have c2 : ∀ w', Below wr.heap.size wr w' → w'.cell? ⟨g, m * 3 + 2, none⟩ = some (.slice (E m).B (E m).m (E m).d) := fun w' hb => (hI.out.row.keep hb).at2 hm3
          have c3 : ∀ w', Below wr.heap.size wr w' → w'.cell? ⟨g, (m + 1) * 3, none⟩ = some (.bool (E (m + 1)).s) := fun w' hb => (hI.out.row.keep hb).at3 hm3
          have c4 : ∀ w', Below wr.heap.size wr w' → w'.cell? ⟨g, (m + 1) * 3 + 1, none⟩ = some (.slice (E (m + 1)).A (E (m + 1)).n (E (m + 1)).c) := fun w' hb => (hI.out.row.keep hb).at4 hm3
          have c5 : ∀ w', Below wr.heap.size wr w' → w'.cell? ⟨g, (m + 1) * 3 + 2, none⟩ = some (.slice (E (m + 1)).B (E (m + 1)).m (E (m + 1)).d) := fun w' hb => (hI.out.row.keep hb).at5 hm3
          have U0 := Below.refl wr.heap.size wr
          have s1 : IntKind.i64.wrap ((m : Int) + 1 - 1) = (m : Int) := by rw [IntKind.wrap_i64]; omega
          have s2 : IntKind.i64.wrap (m : Int) = (m : Int) := by rw [IntKind.wrap_i64]; omega
          have i0 : (0 : Int) ≤ (m : Int) := by omega
          have i4 : (0 : Int) ≤ (m : Int) + 1 := by omega
          have i1 : (m : Int) < 4 := by omega
          have i2 : (m : Int) + 1 < 4 := by omega
          have i3 : decide ((0 : Int) < (m : Int) + 1) = true := decide_eq_true (by omega)
          have lg : ∀ w', Below wr.heap.size wr w' → g < w'.heap.size := fun w' hb => (hI.out.row.keep hb).lt
          have hd := Below.drw_ wr
          have hI1 := hide (hI.out.next hd)
          go_wp2_with fail
          go_region_held3 (fun w' => Below wr.heap.size wr w') (assumption)
            (first | (go_at_call 24; ((with_reducible refine (cmp_q (hI1.out.num (m + 1) (by omega)).rq gM.out (hI1.out.num m (by omega)).rq gM.out (Nat.le_of_lt hI1.out.row.lt) e_k.out).mono ?_); rintro e w1 ⟨rfl, hb⟩; have U1 : Below wr.heap.size wr w1 := Below.then_ hd hb; have hI2 := hide (hI1.out.next hb); clear hb hI1)))
          clear hd U1 U0 lg hI c0 c1 c2 c3 c4 c5
          by_cases hlt : v (m + 1) < v m
          · have hk : decide (kc < 0) = true := decide_eq_true (by rw [← e_k.out]; exact cmp_lt.2 hlt)
            have hS2 := hide (hS.out.swap (by omega) hji hlt)
            clear hlt hS
            have lg := hI2.out.row.lt
            have c0 := hI2.out.row.at0 hm3
            have f0 := hI2.out.row.free (m * 3)
            have c1 := hI2.out.row.at1 hm3
            have f1 := hI2.out.row.free (m * 3 + 1)
            have c2 := hI2.out.row.at2 hm3
            have f2 := hI2.out.row.free (m * 3 + 2)
            have c3 := hI2.out.row.at3 hm3
            have f3 := hI2.out.row.free ((m + 1) * 3)
            have c4 := hI2.out.row.at4 hm3
            have f4 := hI2.out.row.free ((m + 1) * 3 + 1)
            have c5 := hI2.out.row.at5 hm3
            have f5 := hI2.out.row.free ((m + 1) * 3 + 2)
            simp only [hk]
            go_wp2
            go_region
            go_wp2
            go_roundw
            case rel => exact ⟨m, swp (m + 1) E, swp (m + 1) v, by omega, rfl, hS2, hide ((hI2.out.swap hm3).next (Below.drw_ _))⟩
            case measure => simp [intOf]
          · have hk : decide (kc < 0) = false := decide_eq_false (by rw [← e_k.out, cmp_lt]; exact hlt)
            have hS2 := hide (hS.out.stop (by omega) hji (Rat.not_lt.1 hlt))
            clear hlt hS
            simp only [hk]
            go_wp2
            go_roundw
            case rel => exact ⟨i + 1, E, v, by omega, by omega, by go_num, hS2, hI2⟩
            case measure => simp [intOf]; omega
    · go_wp2
      obtain rfl : i = 4 := by omega
      exact bodyPost_ret (results_none rfl _ _ _) rfl ⟨rfl, E, v, hI.out, hS.out⟩

set_option maxHeartbeats 8000000 in
theorem pdq_any {w : World} {g L : Nat} {E : Nat → Rc} {v : Nat → Rat} {a b : Rat} {l : Int} (hI : Sr w w g L E v a b) (gL : L ≤ 100000000) :
    Calls Try.prog 59 #[.slice (some ⟨g, 0, none⟩) 4 4, .int .i64 0, .int .i64 4, .int .i64 l, .func (.func 24) #[] #[]] w (RetSort w g L a b) := by
  replace hI := hide hI
  replace gL := hide gL
  go_enter Try.func59, Try.ntmps59
  go_wp2
  refine wp_loop_rounds 1 ?_
  rw [rounds_succ]
  go_wp2_with fail
  refine (insert_any hI.out gL.out).mono ?_
  rintro e w1 ⟨rfl, E', v', hS, hO⟩
  replace hS := hide hS
  replace hO := hide hO
  go_wp2
  exact bodyPost_ret (results_none rfl _ _ _) rfl ⟨rfl, E', v', hS.out, hO.out⟩
theorem blen_any (w : World) (n : Nat) (hn : n < 18446744073709551616) : Calls Try.prog 60 #[.int .u64 (n : Int)] w fun e w' => e = .returned (.int .i64 (bl n : Int)) ∧ w = w' := by
  go_enter Try.func60, Try.ntmps60
  go_wp2_with (first | (go_at_call 81; refine (len64_any _ n hn).mono ?_; rintro e w' ⟨rfl, rfl⟩))
  go_ret
  exact ⟨rfl, rfl⟩
theorem len4_any (w : World) : Calls Try.prog 60 #[.int .u64 4] w fun e w' => e = .returned (.int .i64 (bl 4 : Int)) ∧ w = w' := blen_any w 4 (by omega)
set_option maxHeartbeats 8000000 in
theorem sortfunc_any {w : World} {g L : Nat} {E : Nat → Rc} {v : Nat → Rat} {a b : Rat} (hI : Sr w w g L E v a b) (gL : L ≤ 100000000) :
    Calls Try.prog 36 #[.slice (some ⟨g, 0, none⟩) 4 4, .func (.func 24) #[] #[]] w (RetSort w g L a b) := by
  replace hI := hide hI
  replace gL := hide gL
  go_enter Try.func36, Try.ntmps36
  go_wp2_with fail
  refine (len4_any w).mono ?_
  rintro e w1 ⟨rfl, rfl⟩
  go_wp2_with fail
  refine (pdq_any hI.out gL.out).mono ?_
  rintro e w1 ⟨rfl, E', v', hS, hO⟩
  replace hS := hide hS
  replace hO := hide hO
  go_wp2
  exact bodyPost_ret (results_none rfl _ _ _) rfl ⟨rfl, E', v', hS.out, hO.out⟩

end Go.Proofs.Ytogafnfpncbgiaa
