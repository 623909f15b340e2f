/-
  Ratios by their cells; boxes of a span; what calls hand back.
-/
import Derived.Test.YtogafnfpncbgiaaLaw3s
import Derived.Test.YtogafnfpncbgiaaTextB
namespace Go.Proofs.Ytogafnfpncbgiaa
open Go.RowKit

theorem sz_absq {p r : Rat} {i : Nat} (hr : qabs p = r) (hp : (dig (zmag p.num)).length ≤ i ∧ (dig p.den).length ≤ i) : (dig (zmag r.num)).length ≤ i ∧ (dig r.den).length ≤ i := by
  unfold qabs at hr
  split at hr
  · exact sz_neg hr hp
  · subst hr; exact hp
theorem lt64 {x : Int} (h0 : -9223372036854775808 ≤ x) (h1 : x ≤ 9223372036854775807) : zmag x < pw 2 := by
  have : pw 2 = 18446744073709551616 := by decide
  unfold zmag; omega
/-- what a block of six cells reads as -/
def Box6 (W : World) (g : Nat) (v0 v1 v2 v3 v4 v5 : Value) : Prop := W.heap[g]? = some (.cells #[v0, v1, v2, v3, v4, v5] 29 (0, 0))
theorem Box6.lt_size {W : World} {g : Nat} {v0 v1 v2 v3 v4 v5 : Value} (h : Box6 W g v0 v1 v2 v3 v4 v5) : g < W.heap.size := (Array.getElem?_eq_some_iff.1 h).1
theorem Box6.at0 {W : World} {g B : Nat} {v0 v1 v2 v3 v4 v5 : Value} (h : Box6 W g v0 v1 v2 v3 v4 v5) (hB : g < B) (_hB' : B ≤ W.heap.size) : ∀ w', Below B W w' → w'.cell? ⟨g, 0, none⟩ = some v0 := fun w' hb => by
  rw [cell_of_row w' g 0 _ _ _ ((hb.block g hB).trans h)]; rfl
theorem Box6.free0 {W : World} {g B : Nat} {v0 v1 v2 v3 v4 v5 : Value} (h : Box6 W g v0 v1 v2 v3 v4 v5) (hB : g < B) (_hB' : B ≤ W.heap.size) : ∀ w', Below B W w' → w'.frozen? ⟨g, 0, none⟩ = false := fun w' hb => frozen_of_row w' g 0 _ _ ((hb.block g hB).trans h)
theorem Box6.but0 {W : World} {g g1 g2 : Nat} {v0 v1 v2 v3 v4 v5 : Value} (h : Box6 W g v0 v1 v2 v3 v4 v5) (h1 : g ≠ g1) (h2 : g ≠ g2) : ∀ w', KeptBut g1 g2 W.heap.size W w' → w'.cell? ⟨g, 0, none⟩ = some v0 := fun w' hk => by
  rw [cell_of_row w' g 0 _ _ _ ((hk g h.lt_size h1 h2).trans h)]; rfl
theorem Box6.at1 {W : World} {g B : Nat} {v0 v1 v2 v3 v4 v5 : Value} (h : Box6 W g v0 v1 v2 v3 v4 v5) (hB : g < B) (_hB' : B ≤ W.heap.size) : ∀ w', Below B W w' → w'.cell? ⟨g, 1, none⟩ = some v1 := fun w' hb => by
  rw [cell_of_row w' g 1 _ _ _ ((hb.block g hB).trans h)]; rfl
theorem Box6.free1 {W : World} {g B : Nat} {v0 v1 v2 v3 v4 v5 : Value} (h : Box6 W g v0 v1 v2 v3 v4 v5) (hB : g < B) (_hB' : B ≤ W.heap.size) : ∀ w', Below B W w' → w'.frozen? ⟨g, 1, none⟩ = false := fun w' hb => frozen_of_row w' g 1 _ _ ((hb.block g hB).trans h)
theorem Box6.but1 {W : World} {g g1 g2 : Nat} {v0 v1 v2 v3 v4 v5 : Value} (h : Box6 W g v0 v1 v2 v3 v4 v5) (h1 : g ≠ g1) (h2 : g ≠ g2) : ∀ w', KeptBut g1 g2 W.heap.size W w' → w'.cell? ⟨g, 1, none⟩ = some v1 := fun w' hk => by
  rw [cell_of_row w' g 1 _ _ _ ((hk g h.lt_size h1 h2).trans h)]; rfl
theorem Box6.at2 {W : World} {g B : Nat} {v0 v1 v2 v3 v4 v5 : Value} (h : Box6 W g v0 v1 v2 v3 v4 v5) (hB : g < B) (_hB' : B ≤ W.heap.size) : ∀ w', Below B W w' → w'.cell? ⟨g, 2, none⟩ = some v2 := fun w' hb => by
  rw [cell_of_row w' g 2 _ _ _ ((hb.block g hB).trans h)]; rfl
theorem Box6.free2 {W : World} {g B : Nat} {v0 v1 v2 v3 v4 v5 : Value} (h : Box6 W g v0 v1 v2 v3 v4 v5) (hB : g < B) (_hB' : B ≤ W.heap.size) : ∀ w', Below B W w' → w'.frozen? ⟨g, 2, none⟩ = false := fun w' hb => frozen_of_row w' g 2 _ _ ((hb.block g hB).trans h)
theorem Box6.but2 {W : World} {g g1 g2 : Nat} {v0 v1 v2 v3 v4 v5 : Value} (h : Box6 W g v0 v1 v2 v3 v4 v5) (h1 : g ≠ g1) (h2 : g ≠ g2) : ∀ w', KeptBut g1 g2 W.heap.size W w' → w'.cell? ⟨g, 2, none⟩ = some v2 := fun w' hk => by
  rw [cell_of_row w' g 2 _ _ _ ((hk g h.lt_size h1 h2).trans h)]; rfl
theorem Box6.at3 {W : World} {g B : Nat} {v0 v1 v2 v3 v4 v5 : Value} (h : Box6 W g v0 v1 v2 v3 v4 v5) (hB : g < B) (_hB' : B ≤ W.heap.size) : ∀ w', Below B W w' → w'.cell? ⟨g, 3, none⟩ = some v3 := fun w' hb => by
  rw [cell_of_row w' g 3 _ _ _ ((hb.block g hB).trans h)]; rfl
theorem Box6.free3 {W : World} {g B : Nat} {v0 v1 v2 v3 v4 v5 : Value} (h : Box6 W g v0 v1 v2 v3 v4 v5) (hB : g < B) (_hB' : B ≤ W.heap.size) : ∀ w', Below B W w' → w'.frozen? ⟨g, 3, none⟩ = false := fun w' hb => frozen_of_row w' g 3 _ _ ((hb.block g hB).trans h)
theorem Box6.but3 {W : World} {g g1 g2 : Nat} {v0 v1 v2 v3 v4 v5 : Value} (h : Box6 W g v0 v1 v2 v3 v4 v5) (h1 : g ≠ g1) (h2 : g ≠ g2) : ∀ w', KeptBut g1 g2 W.heap.size W w' → w'.cell? ⟨g, 3, none⟩ = some v3 := fun w' hk => by
  rw [cell_of_row w' g 3 _ _ _ ((hk g h.lt_size h1 h2).trans h)]; rfl
theorem Box6.at4 {W : World} {g B : Nat} {v0 v1 v2 v3 v4 v5 : Value} (h : Box6 W g v0 v1 v2 v3 v4 v5) (hB : g < B) (_hB' : B ≤ W.heap.size) : ∀ w', Below B W w' → w'.cell? ⟨g, 4, none⟩ = some v4 := fun w' hb => by
  rw [cell_of_row w' g 4 _ _ _ ((hb.block g hB).trans h)]; rfl
theorem Box6.free4 {W : World} {g B : Nat} {v0 v1 v2 v3 v4 v5 : Value} (h : Box6 W g v0 v1 v2 v3 v4 v5) (hB : g < B) (_hB' : B ≤ W.heap.size) : ∀ w', Below B W w' → w'.frozen? ⟨g, 4, none⟩ = false := fun w' hb => frozen_of_row w' g 4 _ _ ((hb.block g hB).trans h)
theorem Box6.but4 {W : World} {g g1 g2 : Nat} {v0 v1 v2 v3 v4 v5 : Value} (h : Box6 W g v0 v1 v2 v3 v4 v5) (h1 : g ≠ g1) (h2 : g ≠ g2) : ∀ w', KeptBut g1 g2 W.heap.size W w' → w'.cell? ⟨g, 4, none⟩ = some v4 := fun w' hk => by
  rw [cell_of_row w' g 4 _ _ _ ((hk g h.lt_size h1 h2).trans h)]; rfl
theorem Box6.at5 {W : World} {g B : Nat} {v0 v1 v2 v3 v4 v5 : Value} (h : Box6 W g v0 v1 v2 v3 v4 v5) (hB : g < B) (_hB' : B ≤ W.heap.size) : ∀ w', Below B W w' → w'.cell? ⟨g, 5, none⟩ = some v5 := fun w' hb => by
  rw [cell_of_row w' g 5 _ _ _ ((hb.block g hB).trans h)]; rfl
theorem Box6.free5 {W : World} {g B : Nat} {v0 v1 v2 v3 v4 v5 : Value} (h : Box6 W g v0 v1 v2 v3 v4 v5) (hB : g < B) (_hB' : B ≤ W.heap.size) : ∀ w', Below B W w' → w'.frozen? ⟨g, 5, none⟩ = false := fun w' hb => frozen_of_row w' g 5 _ _ ((hb.block g hB).trans h)
theorem Box6.but5 {W : World} {g g1 g2 : Nat} {v0 v1 v2 v3 v4 v5 : Value} (h : Box6 W g v0 v1 v2 v3 v4 v5) (h1 : g ≠ g1) (h2 : g ≠ g2) : ∀ w', KeptBut g1 g2 W.heap.size W w' → w'.cell? ⟨g, 5, none⟩ = some v5 := fun w' hk => by
  rw [cell_of_row w' g 5 _ _ _ ((hk g h.lt_size h1 h2).trans h)]; rfl
theorem Box6.lt {W : World} {g B : Nat} {v0 v1 v2 v3 v4 v5 : Value} (h : Box6 W g v0 v1 v2 v3 v4 v5) (hB : g < B) (hB' : B ≤ W.heap.size) : ∀ w', Below B W w' → g < w'.heap.size := fun _ hb => have _ := h; Nat.lt_of_lt_of_le hB (Nat.le_trans hB' hb.size)
theorem Box6.new (w : World) (v0 v1 v2 v3 v4 v5 : Value) {g : Nat} (hg : g = w.heap.size) : Box6 (w.alloc (.cells #[v0, v1, v2, v3, v4, v5] 29)) g v0 v1 v2 v3 v4 v5 := heap_alloc_at _ _ hg
theorem Box6.keep {W W' : World} {g : Nat} {v0 v1 v2 v3 v4 v5 : Value} (h : Box6 W g v0 v1 v2 v3 v4 v5) (hb : Below W.heap.size W W') : Box6 W' g v0 v1 v2 v3 v4 v5 := (hb.block g h.lt_size).trans h
theorem Box6.al {W : World} {g : Nat} {v0 v1 v2 v3 v4 v5 : Value} (h : Box6 W g v0 v1 v2 v3 v4 v5) (o : Obj) : Box6 (W.alloc o) g v0 v1 v2 v3 v4 v5 := h.keep ((Below.refl _ _).alloc (Nat.le_refl _) o)
theorem Box6.set {W : World} {g : Nat} {v0 v1 v2 v3 v4 v5 : Value} (h : Box6 W g v0 v1 v2 v3 v4 v5) (u0 u1 u2 u3 u4 u5 : Value) : Box6 ((((((W.setCell ⟨g, 0, none⟩ u0).setCell ⟨g, 1, none⟩ u1).setCell ⟨g, 2, none⟩ u2).setCell ⟨g, 3, none⟩ u3).setCell ⟨g, 4, none⟩ u4).setCell ⟨g, 5, none⟩ u5) g u0 u1 u2 u3 u4 u5 :=
  heap_setCell_same _ g 5 _ _ u5 (heap_setCell_same _ g 4 _ _ u4 (heap_setCell_same _ g 3 _ _ u3 (heap_setCell_same _ g 2 _ _ u2 (heap_setCell_same _ g 1 _ _ u1 (heap_setCell_same W g 0 _ _ u0 h)))))
theorem Box6.other {W : World} {g g' o : Nat} {v0 v1 v2 v3 v4 v5 : Value} (h : Box6 W g v0 v1 v2 v3 v4 v5) (hne : g ≠ g') (v : Value) : Box6 (W.setCell ⟨g', o, none⟩ v) g v0 v1 v2 v3 v4 v5 := (Below.heap_setCell _ _ _ _ hne).trans h
theorem far6 {w2 : World} {g : Nat} {v0 v1 v2 v3 v4 v5 : Value} (hc0 : w2.cell? ⟨g, 0, none⟩ = some v0) (hv0 : ∀ x, v0 ≠ .int .u32 x) (hc1 : w2.cell? ⟨g, 1, none⟩ = some v1) (hv1 : ∀ x, v1 ≠ .int .u32 x) (hc2 : w2.cell? ⟨g, 2, none⟩ = some v2) (hv2 : ∀ x, v2 ≠ .int .u32 x) (hc3 : w2.cell? ⟨g, 3, none⟩ = some v3) (hv3 : ∀ x, v3 ≠ .int .u32 x) (hc4 : w2.cell? ⟨g, 4, none⟩ = some v4) (hv4 : ∀ x, v4 ≠ .int .u32 x) (hc5 : w2.cell? ⟨g, 5, none⟩ = some v5) (hv5 : ∀ x, v5 ≠ .int .u32 x) (u0 u1 u2 u3 u4 u5 : Value) {A : Option Addr} {n k : Nat} {xs : List Nat} {Bd : Nat} (R : Rd w2 Bd A n k xs) : Rd ((((((w2.setCell ⟨g, 0, none⟩ u0).setCell ⟨g, 1, none⟩ u1).setCell ⟨g, 2, none⟩ u2).setCell ⟨g, 3, none⟩ u3).setCell ⟨g, 4, none⟩ u4).setCell ⟨g, 5, none⟩ u5) Bd A n k xs := by
  have e1 : (w2.setCell ⟨g, 0, none⟩ u0).cell? ⟨g, 1, none⟩ = some v1 := ((World.cell?_setCell_other _ _ _ _ (by simp)).trans hc1)
  have e2 : ((w2.setCell ⟨g, 0, none⟩ u0).setCell ⟨g, 1, none⟩ u1).cell? ⟨g, 2, none⟩ = some v2 := ((World.cell?_setCell_other _ _ _ _ (by simp)).trans ((World.cell?_setCell_other _ _ _ _ (by simp)).trans hc2))
  have e3 : (((w2.setCell ⟨g, 0, none⟩ u0).setCell ⟨g, 1, none⟩ u1).setCell ⟨g, 2, none⟩ u2).cell? ⟨g, 3, none⟩ = some v3 := ((World.cell?_setCell_other _ _ _ _ (by simp)).trans ((World.cell?_setCell_other _ _ _ _ (by simp)).trans ((World.cell?_setCell_other _ _ _ _ (by simp)).trans hc3)))
  have e4 : ((((w2.setCell ⟨g, 0, none⟩ u0).setCell ⟨g, 1, none⟩ u1).setCell ⟨g, 2, none⟩ u2).setCell ⟨g, 3, none⟩ u3).cell? ⟨g, 4, none⟩ = some v4 := ((World.cell?_setCell_other _ _ _ _ (by simp)).trans ((World.cell?_setCell_other _ _ _ _ (by simp)).trans ((World.cell?_setCell_other _ _ _ _ (by simp)).trans ((World.cell?_setCell_other _ _ _ _ (by simp)).trans hc4))))
  have e5 : (((((w2.setCell ⟨g, 0, none⟩ u0).setCell ⟨g, 1, none⟩ u1).setCell ⟨g, 2, none⟩ u2).setCell ⟨g, 3, none⟩ u3).setCell ⟨g, 4, none⟩ u4).cell? ⟨g, 5, none⟩ = some v5 := ((World.cell?_setCell_other _ _ _ _ (by simp)).trans ((World.cell?_setCell_other _ _ _ _ (by simp)).trans ((World.cell?_setCell_other _ _ _ _ (by simp)).trans ((World.cell?_setCell_other _ _ _ _ (by simp)).trans ((World.cell?_setCell_other _ _ _ _ (by simp)).trans hc5)))))
  exact (((((R.far hc0 hv0).far e1 hv1).far e2 hv2).far e3 hv3).far e4 hv4).far e5 hv5

/-- a ratio's cells -/
structure Rc where
  s : Bool
  A : Option Addr
  n : Nat
  c : Nat
  B : Option Addr
  m : Nat
  d : Nat
/-- they read as the number q, in any form, of at most L limbs each -/
def Rq (w : World) (Bd L : Nat) (x : Rc) (q : Rat) : Prop :=
  ∃ xs ys, Rd w Bd x.A x.n x.c xs ∧ Rd w Bd x.B x.m x.d ys ∧ x.n ≤ L ∧ x.m ≤ L ∧ qv x.s (val xs) (val ys) = q
/-- .. in normal form -/
def Nq (w : World) (Bd L : Nat) (x : Rc) (q : Rat) : Prop :=
  x.s = zneg q.num ∧ Rd w Bd x.A x.n x.c (dig (zmag q.num)) ∧ Rd w Bd x.B x.m x.d (dig q.den) ∧ x.n ≤ L ∧ x.m ≤ L
theorem Nq.rq {w : World} {Bd L : Nat} {x : Rc} {q : Rat} (h : Nq w Bd L x q) : Rq w Bd L x q :=
  ⟨_, _, h.2.1, h.2.2.1, h.2.2.2.1, h.2.2.2.2, by rw [h.1]; exact qv_eta q⟩
theorem Rq.then_ {w w' : World} {L : Nat} {x : Rc} {q : Rat} (h : Rq w w.heap.size L x q) (hb : Below w.heap.size w w') : Rq w' w'.heap.size L x q := by
  obtain ⟨xs, ys, h1, h2, h3⟩ := h; exact ⟨xs, ys, h1.then_ hb, h2.then_ hb, h3⟩
theorem Nq.then_ {w w' : World} {L : Nat} {x : Rc} {q : Rat} (h : Nq w w.heap.size L x q) (hb : Below w.heap.size w w') : Nq w' w'.heap.size L x q :=
  ⟨h.1, h.2.1.then_ hb, h.2.2.1.then_ hb, h.2.2.2⟩
theorem Rq.upto {w w' : World} {Bd L : Nat} {x : Rc} {q : Rat} (h : Rq w Bd L x q) (hb : Below w.heap.size w w') (hB : Bd ≤ w.heap.size) : Rq w' w'.heap.size L x q := by
  obtain ⟨xs, ys, h1, h2, h3⟩ := h; exact ⟨xs, ys, h1.upto hb hB, h2.upto hb hB, h3⟩
theorem Nq.upto {w w' : World} {Bd L : Nat} {x : Rc} {q : Rat} (h : Nq w Bd L x q) (hb : Below w.heap.size w w') (hB : Bd ≤ w.heap.size) : Nq w' w'.heap.size L x q :=
  ⟨h.1, h.2.1.upto hb hB, h.2.2.1.upto hb hB, h.2.2.2⟩
theorem Rq.al_ {w : World} {L : Nat} {x : Rc} {q : Rat} (h : Rq w w.heap.size L x q) (o : Obj) : Rq (w.alloc o) (w.alloc o).heap.size L x q := h.then_ (Below.al_ (Below.refl _ _) o)
theorem Nq.al_ {w : World} {L : Nat} {x : Rc} {q : Rat} (h : Nq w w.heap.size L x q) (o : Obj) : Nq (w.alloc o) (w.alloc o).heap.size L x q := h.then_ (Below.al_ (Below.refl _ _) o)
theorem Rq.le {w : World} {Bd L M : Nat} {x : Rc} {q : Rat} (h : Rq w Bd L x q) (hl : L ≤ M) : Rq w Bd M x q := by
  obtain ⟨xs, ys, h1, h2, h3, h4, h5⟩ := h; exact ⟨xs, ys, h1, h2, Nat.le_trans h3 hl, Nat.le_trans h4 hl, h5⟩
theorem Nq.le {w : World} {Bd L M : Nat} {x : Rc} {q : Rat} (h : Nq w Bd L x q) (hl : L ≤ M) : Nq w Bd M x q :=
  ⟨h.1, h.2.1, h.2.2.1, Nat.le_trans h.2.2.2.1 hl, Nat.le_trans h.2.2.2.2 hl⟩
theorem Rq.zero (w : World) (Bd L : Nat) : Rq w Bd L ⟨false, none, 0, 0, none, 0, 0⟩ 0 :=
  ⟨[], [], Rd.empty _ _ _ (by simp), Rd.empty _ _ _ (by simp), Nat.zero_le _, Nat.zero_le _, qv_zero _ _⟩
theorem nob {b : Bool} : ∀ x, Value.bool b ≠ .int .u32 x := fun x h => by cases h
theorem nos {A : Option Addr} {n c : Nat} : ∀ x, Value.slice A n c ≠ .int .u32 x := fun x h => by cases h
theorem Rq.set3 {w : World} {g L : Nat} {y : Rc} {x : Rc} {q : Rat} (h : Rq w w.heap.size L x q) (hc0 : w.cell? ⟨g, 0, none⟩ = some (.bool y.s)) (hc1 : w.cell? ⟨g, 1, none⟩ = some (.slice y.A y.n y.c)) (hc2 : w.cell? ⟨g, 2, none⟩ = some (.slice y.B y.m y.d)) (u0 u1 u2 : Value) : Rq (((w.setCell ⟨g, 0, none⟩ (u0)).setCell ⟨g, 1, none⟩ (u1)).setCell ⟨g, 2, none⟩ (u2)) (((w.setCell ⟨g, 0, none⟩ (u0)).setCell ⟨g, 1, none⟩ (u1)).setCell ⟨g, 2, none⟩ (u2)).heap.size L x q := by
  obtain ⟨xs, ys, h1, h2, h3⟩ := h; exact ⟨xs, ys, by simpa using far3 hc0 hc1 hc2 _ _ _ h1, by simpa using far3 hc0 hc1 hc2 _ _ _ h2, h3⟩
theorem Rq.set6 {w : World} {g L : Nat} {y z : Rc} {x : Rc} {q : Rat} (h : Rq w w.heap.size L x q) (hc0 : w.cell? ⟨g, 0, none⟩ = some (.bool y.s)) (hc1 : w.cell? ⟨g, 1, none⟩ = some (.slice y.A y.n y.c)) (hc2 : w.cell? ⟨g, 2, none⟩ = some (.slice y.B y.m y.d)) (hc3 : w.cell? ⟨g, 3, none⟩ = some (.bool z.s)) (hc4 : w.cell? ⟨g, 4, none⟩ = some (.slice z.A z.n z.c)) (hc5 : w.cell? ⟨g, 5, none⟩ = some (.slice z.B z.m z.d)) (u0 u1 u2 u3 u4 u5 : Value) : Rq ((((((w.setCell ⟨g, 0, none⟩ (u0)).setCell ⟨g, 1, none⟩ (u1)).setCell ⟨g, 2, none⟩ (u2)).setCell ⟨g, 3, none⟩ (u3)).setCell ⟨g, 4, none⟩ (u4)).setCell ⟨g, 5, none⟩ (u5)) ((((((w.setCell ⟨g, 0, none⟩ (u0)).setCell ⟨g, 1, none⟩ (u1)).setCell ⟨g, 2, none⟩ (u2)).setCell ⟨g, 3, none⟩ (u3)).setCell ⟨g, 4, none⟩ (u4)).setCell ⟨g, 5, none⟩ (u5)).heap.size L x q := by
  obtain ⟨xs, ys, h1, h2, h3⟩ := h; exact ⟨xs, ys, by simpa using far6 hc0 nob hc1 nos hc2 nos hc3 nob hc4 nos hc5 nos _ _ _ _ _ _ h1, by simpa using far6 hc0 nob hc1 nos hc2 nos hc3 nob hc4 nos hc5 nos _ _ _ _ _ _ h2, h3⟩
theorem Nq.set3 {w : World} {g L : Nat} {y : Rc} {x : Rc} {q : Rat} (h : Nq w w.heap.size L x q) (hc0 : w.cell? ⟨g, 0, none⟩ = some (.bool y.s)) (hc1 : w.cell? ⟨g, 1, none⟩ = some (.slice y.A y.n y.c)) (hc2 : w.cell? ⟨g, 2, none⟩ = some (.slice y.B y.m y.d)) (u0 u1 u2 : Value) : Nq (((w.setCell ⟨g, 0, none⟩ (u0)).setCell ⟨g, 1, none⟩ (u1)).setCell ⟨g, 2, none⟩ (u2)) (((w.setCell ⟨g, 0, none⟩ (u0)).setCell ⟨g, 1, none⟩ (u1)).setCell ⟨g, 2, none⟩ (u2)).heap.size L x q := 
  ⟨h.1, by simpa using far3 hc0 hc1 hc2 _ _ _ h.2.1, by simpa using far3 hc0 hc1 hc2 _ _ _ h.2.2.1, h.2.2.2⟩
theorem Nq.set6 {w : World} {g L : Nat} {y z : Rc} {x : Rc} {q : Rat} (h : Nq w w.heap.size L x q) (hc0 : w.cell? ⟨g, 0, none⟩ = some (.bool y.s)) (hc1 : w.cell? ⟨g, 1, none⟩ = some (.slice y.A y.n y.c)) (hc2 : w.cell? ⟨g, 2, none⟩ = some (.slice y.B y.m y.d)) (hc3 : w.cell? ⟨g, 3, none⟩ = some (.bool z.s)) (hc4 : w.cell? ⟨g, 4, none⟩ = some (.slice z.A z.n z.c)) (hc5 : w.cell? ⟨g, 5, none⟩ = some (.slice z.B z.m z.d)) (u0 u1 u2 u3 u4 u5 : Value) : Nq ((((((w.setCell ⟨g, 0, none⟩ (u0)).setCell ⟨g, 1, none⟩ (u1)).setCell ⟨g, 2, none⟩ (u2)).setCell ⟨g, 3, none⟩ (u3)).setCell ⟨g, 4, none⟩ (u4)).setCell ⟨g, 5, none⟩ (u5)) ((((((w.setCell ⟨g, 0, none⟩ (u0)).setCell ⟨g, 1, none⟩ (u1)).setCell ⟨g, 2, none⟩ (u2)).setCell ⟨g, 3, none⟩ (u3)).setCell ⟨g, 4, none⟩ (u4)).setCell ⟨g, 5, none⟩ (u5)).heap.size L x q := 
  ⟨h.1, by simpa using far6 hc0 nob hc1 nos hc2 nos hc3 nob hc4 nos hc5 nos _ _ _ _ _ _ h.2.1, by simpa using far6 hc0 nob hc1 nos hc2 nos hc3 nob hc4 nos hc5 nos _ _ _ _ _ _ h.2.2.1, h.2.2.2⟩

/-- what calls hand back: a ratio; a span (raw; in normal form) -/
def RetR (w : World) (L : Nat) (q : Rat) (e : Ending) (w' : World) : Prop :=
  ∃ x : Rc, e = .returned (.agg #[.bool x.s, .slice x.A x.n x.c, .slice x.B x.m x.d]) ∧ Rq w' w'.heap.size L x q ∧ Below w.heap.size w w'
def RetN (w : World) (L : Nat) (q : Rat) (e : Ending) (w' : World) : Prop :=
  ∃ x : Rc, e = .returned (.agg #[.bool x.s, .slice x.A x.n x.c, .slice x.B x.m x.d]) ∧ Nq w' w'.heap.size L x q ∧ Below w.heap.size w w'
def RetNB (w : World) (L : Nat) (q : Rat) (ok : Bool) (e : Ending) (w' : World) : Prop :=
  ∃ x : Rc, e = .returned (.tuple #[.agg #[.bool x.s, .slice x.A x.n x.c, .slice x.B x.m x.d], .bool ok]) ∧ Nq w' w'.heap.size L x q ∧ Below w.heap.size w w'
def RetS (w : World) (L : Nat) (p q : Rat) (e : Ending) (w' : World) : Prop :=
  ∃ x y : Rc, e = .returned (.agg #[.bool x.s, .slice x.A x.n x.c, .slice x.B x.m x.d, .bool y.s, .slice y.A y.n y.c, .slice y.B y.m y.d]) ∧ Rq w' w'.heap.size L x p ∧ Rq w' w'.heap.size L y q ∧ Below w.heap.size w w'
def RetSN (w : World) (L : Nat) (p q : Rat) (e : Ending) (w' : World) : Prop :=
  ∃ x y : Rc, e = .returned (.agg #[.bool x.s, .slice x.A x.n x.c, .slice x.B x.m x.d, .bool y.s, .slice y.A y.n y.c, .slice y.B y.m y.d]) ∧ Nq w' w'.heap.size L x p ∧ Nq w' w'.heap.size L y q ∧ Below w.heap.size w w'
def RetSNB (w : World) (L : Nat) (p q : Rat) (e : Ending) (w' : World) : Prop :=
  ∃ x y : Rc, e = .returned (.tuple #[.agg #[.bool x.s, .slice x.A x.n x.c, .slice x.B x.m x.d, .bool y.s, .slice y.A y.n y.c, .slice y.B y.m y.d], .bool true]) ∧ Nq w' w'.heap.size L x p ∧ Nq w' w'.heap.size L y q ∧ Below w.heap.size w w'
def RetSRB (w : World) (e : Ending) (w' : World) : Prop :=
  e = .returned (.tuple #[.agg #[.bool false, .slice none 0 0, .slice none 0 0, .bool false, .slice none 0 0, .slice none 0 0], .bool false]) ∧ Below w.heap.size w w'
theorem RetR.box {w w2 : World} {L g : Nat} {x : Rc} {q : Rat} {b1 : Bool} (hb : Below w.heap.size w w2) (hg : w.heap.size ≤ g) (hc0 : w2.cell? ⟨g, 0, none⟩ = some (.bool b1)) (hc1 : w2.cell? ⟨g, 1, none⟩ = some (.slice none 0 0)) (hc2 : w2.cell? ⟨g, 2, none⟩ = some (.slice none 0 0)) (R : Rq w2 w2.heap.size L x q) :
    RetR w L q (.returned (.agg #[.bool x.s, .slice x.A x.n x.c, .slice x.B x.m x.d])) (((w2.setCell ⟨g, 0, none⟩ (.bool x.s)).setCell ⟨g, 1, none⟩ (.slice x.A x.n x.c)).setCell ⟨g, 2, none⟩ (.slice x.B x.m x.d)) :=
  ⟨x, rfl, R.set3 (y := ⟨b1, none, 0, 0, none, 0, 0⟩) hc0 hc1 hc2 _ _ _, ((hb.setCell hg _).setCell hg _).setCell hg _⟩
theorem RetN.box {w w2 : World} {L g : Nat} {x : Rc} {q : Rat} {b1 : Bool} (hb : Below w.heap.size w w2) (hg : w.heap.size ≤ g) (hc0 : w2.cell? ⟨g, 0, none⟩ = some (.bool b1)) (hc1 : w2.cell? ⟨g, 1, none⟩ = some (.slice none 0 0)) (hc2 : w2.cell? ⟨g, 2, none⟩ = some (.slice none 0 0)) (R : Nq w2 w2.heap.size L x q) :
    RetN w L q (.returned (.agg #[.bool x.s, .slice x.A x.n x.c, .slice x.B x.m x.d])) (((w2.setCell ⟨g, 0, none⟩ (.bool x.s)).setCell ⟨g, 1, none⟩ (.slice x.A x.n x.c)).setCell ⟨g, 2, none⟩ (.slice x.B x.m x.d)) :=
  ⟨x, rfl, R.set3 (y := ⟨b1, none, 0, 0, none, 0, 0⟩) hc0 hc1 hc2 _ _ _, ((hb.setCell hg _).setCell hg _).setCell hg _⟩
theorem RetS.box {w w2 : World} {L g : Nat} {x y : Rc} {p q : Rat} {b1 b2 : Bool} (hb : Below w.heap.size w w2) (hg : w.heap.size ≤ g) (hc0 : w2.cell? ⟨g, 0, none⟩ = some (.bool b1)) (hc1 : w2.cell? ⟨g, 1, none⟩ = some (.slice none 0 0)) (hc2 : w2.cell? ⟨g, 2, none⟩ = some (.slice none 0 0)) (hc3 : w2.cell? ⟨g, 3, none⟩ = some (.bool b2)) (hc4 : w2.cell? ⟨g, 4, none⟩ = some (.slice none 0 0)) (hc5 : w2.cell? ⟨g, 5, none⟩ = some (.slice none 0 0)) (R : Rq w2 w2.heap.size L x p) (S : Rq w2 w2.heap.size L y q) :
    RetS w L p q (.returned (.agg #[.bool x.s, .slice x.A x.n x.c, .slice x.B x.m x.d, .bool y.s, .slice y.A y.n y.c, .slice y.B y.m y.d])) ((((((w2.setCell ⟨g, 0, none⟩ (.bool x.s)).setCell ⟨g, 1, none⟩ (.slice x.A x.n x.c)).setCell ⟨g, 2, none⟩ (.slice x.B x.m x.d)).setCell ⟨g, 3, none⟩ (.bool y.s)).setCell ⟨g, 4, none⟩ (.slice y.A y.n y.c)).setCell ⟨g, 5, none⟩ (.slice y.B y.m y.d)) :=
  ⟨x, y, rfl, R.set6 (y := ⟨b1, none, 0, 0, none, 0, 0⟩) (z := ⟨b2, none, 0, 0, none, 0, 0⟩) hc0 hc1 hc2 hc3 hc4 hc5 _ _ _ _ _ _, S.set6 (y := ⟨b1, none, 0, 0, none, 0, 0⟩) (z := ⟨b2, none, 0, 0, none, 0, 0⟩) hc0 hc1 hc2 hc3 hc4 hc5 _ _ _ _ _ _, (((((hb.setCell hg _).setCell hg _).setCell hg _).setCell hg _).setCell hg _).setCell hg _⟩
theorem RetSN.box {w w2 : World} {L g : Nat} {x y : Rc} {p q : Rat} {b1 b2 : Bool} (hb : Below w.heap.size w w2) (hg : w.heap.size ≤ g) (hc0 : w2.cell? ⟨g, 0, none⟩ = some (.bool b1)) (hc1 : w2.cell? ⟨g, 1, none⟩ = some (.slice none 0 0)) (hc2 : w2.cell? ⟨g, 2, none⟩ = some (.slice none 0 0)) (hc3 : w2.cell? ⟨g, 3, none⟩ = some (.bool b2)) (hc4 : w2.cell? ⟨g, 4, none⟩ = some (.slice none 0 0)) (hc5 : w2.cell? ⟨g, 5, none⟩ = some (.slice none 0 0)) (R : Nq w2 w2.heap.size L x p) (S : Nq w2 w2.heap.size L y q) :
    RetSN w L p q (.returned (.agg #[.bool x.s, .slice x.A x.n x.c, .slice x.B x.m x.d, .bool y.s, .slice y.A y.n y.c, .slice y.B y.m y.d])) ((((((w2.setCell ⟨g, 0, none⟩ (.bool x.s)).setCell ⟨g, 1, none⟩ (.slice x.A x.n x.c)).setCell ⟨g, 2, none⟩ (.slice x.B x.m x.d)).setCell ⟨g, 3, none⟩ (.bool y.s)).setCell ⟨g, 4, none⟩ (.slice y.A y.n y.c)).setCell ⟨g, 5, none⟩ (.slice y.B y.m y.d)) :=
  ⟨x, y, rfl, R.set6 (y := ⟨b1, none, 0, 0, none, 0, 0⟩) (z := ⟨b2, none, 0, 0, none, 0, 0⟩) hc0 hc1 hc2 hc3 hc4 hc5 _ _ _ _ _ _, S.set6 (y := ⟨b1, none, 0, 0, none, 0, 0⟩) (z := ⟨b2, none, 0, 0, none, 0, 0⟩) hc0 hc1 hc2 hc3 hc4 hc5 _ _ _ _ _ _, (((((hb.setCell hg _).setCell hg _).setCell hg _).setCell hg _).setCell hg _).setCell hg _⟩
theorem RetSNB.box {w w2 : World} {L g : Nat} {x y : Rc} {p q : Rat} {b1 b2 : Bool} (hb : Below w.heap.size w w2) (hg : w.heap.size ≤ g) (hc0 : w2.cell? ⟨g, 0, none⟩ = some (.bool b1)) (hc1 : w2.cell? ⟨g, 1, none⟩ = some (.slice none 0 0)) (hc2 : w2.cell? ⟨g, 2, none⟩ = some (.slice none 0 0)) (hc3 : w2.cell? ⟨g, 3, none⟩ = some (.bool b2)) (hc4 : w2.cell? ⟨g, 4, none⟩ = some (.slice none 0 0)) (hc5 : w2.cell? ⟨g, 5, none⟩ = some (.slice none 0 0)) (R : Nq w2 w2.heap.size L x p) (S : Nq w2 w2.heap.size L y q) :
    RetSNB w L p q (.returned (.tuple #[.agg #[.bool x.s, .slice x.A x.n x.c, .slice x.B x.m x.d, .bool y.s, .slice y.A y.n y.c, .slice y.B y.m y.d], .bool true])) ((((((w2.setCell ⟨g, 0, none⟩ (.bool x.s)).setCell ⟨g, 1, none⟩ (.slice x.A x.n x.c)).setCell ⟨g, 2, none⟩ (.slice x.B x.m x.d)).setCell ⟨g, 3, none⟩ (.bool y.s)).setCell ⟨g, 4, none⟩ (.slice y.A y.n y.c)).setCell ⟨g, 5, none⟩ (.slice y.B y.m y.d)) :=
  ⟨x, y, rfl, R.set6 (y := ⟨b1, none, 0, 0, none, 0, 0⟩) (z := ⟨b2, none, 0, 0, none, 0, 0⟩) hc0 hc1 hc2 hc3 hc4 hc5 _ _ _ _ _ _, S.set6 (y := ⟨b1, none, 0, 0, none, 0, 0⟩) (z := ⟨b2, none, 0, 0, none, 0, 0⟩) hc0 hc1 hc2 hc3 hc4 hc5 _ _ _ _ _ _, (((((hb.setCell hg _).setCell hg _).setCell hg _).setCell hg _).setCell hg _).setCell hg _⟩
theorem add_q {w : World} {Bd La Lb : Nat} {a b : Rc} {p q r : Rat} (ha : Rq w Bd La a p) (ga : La ≤ 400000000) (hb : Rq w Bd Lb b q) (gb : Lb ≤ 400000000) (hB : Bd ≤ w.heap.size) (hr : p + q = r) : Calls Try.prog 10 #[.agg #[.bool a.s, .slice a.A a.n a.c, .slice a.B a.m a.d], .agg #[.bool b.s, .slice b.A b.n b.c, .slice b.B b.m b.d]] w (RetN w (La + Lb + 3) r) := by
  obtain ⟨xs, ys, h1, h2, h3, h4, h5⟩ := ha
  obtain ⟨us, vs, k1, k2, k3, k4, k5⟩ := hb
  have z := sz_add hr (sz_rd h1 h2 h5 h3 h4) (sz_rd k1 k2 k5 k3 k4)
  refine (padd_any (q := r) h1 (by omega) h2 (by omega) k1 (by omega) k2 (by omega) hB (by rw [h5, k5]; exact hr)).mono ?_
  rintro e w' ⟨A, c, B, d, rfl, R, R', hb⟩
  exact ⟨⟨zneg r.num, A, _, c, B, _, d⟩, rfl, ⟨rfl, R, R', by show (dig (zmag r.num)).length ≤ _; omega, by show (dig r.den).length ≤ _; omega⟩, hb⟩
theorem sub_q {w : World} {Bd La Lb : Nat} {a b : Rc} {p q r : Rat} (ha : Rq w Bd La a p) (ga : La ≤ 400000000) (hb : Rq w Bd Lb b q) (gb : Lb ≤ 400000000) (hB : Bd ≤ w.heap.size) (hr : p - q = r) : Calls Try.prog 12 #[.agg #[.bool a.s, .slice a.A a.n a.c, .slice a.B a.m a.d], .agg #[.bool b.s, .slice b.A b.n b.c, .slice b.B b.m b.d]] w (RetN w (La + Lb + 3) r) := by
  obtain ⟨xs, ys, h1, h2, h3, h4, h5⟩ := ha
  obtain ⟨us, vs, k1, k2, k3, k4, k5⟩ := hb
  have z := sz_sub hr (sz_rd h1 h2 h5 h3 h4) (sz_rd k1 k2 k5 k3 k4)
  refine (psub_any (q := r) h1 (by omega) h2 (by omega) k1 (by omega) k2 (by omega) hB (by rw [h5, k5]; exact hr)).mono ?_
  rintro e w' ⟨A, c, B, d, rfl, R, R', hb⟩
  exact ⟨⟨zneg r.num, A, _, c, B, _, d⟩, rfl, ⟨rfl, R, R', by show (dig (zmag r.num)).length ≤ _; omega, by show (dig r.den).length ≤ _; omega⟩, hb⟩
theorem mul_q {w : World} {Bd La Lb : Nat} {a b : Rc} {p q r : Rat} (ha : Rq w Bd La a p) (ga : La ≤ 400000000) (hb : Rq w Bd Lb b q) (gb : Lb ≤ 400000000) (hB : Bd ≤ w.heap.size) (hr : p * q = r) : Calls Try.prog 14 #[.agg #[.bool a.s, .slice a.A a.n a.c, .slice a.B a.m a.d], .agg #[.bool b.s, .slice b.A b.n b.c, .slice b.B b.m b.d]] w (RetN w (La + Lb + 2) r) := by
  obtain ⟨xs, ys, h1, h2, h3, h4, h5⟩ := ha
  obtain ⟨us, vs, k1, k2, k3, k4, k5⟩ := hb
  have z := sz_mul hr (sz_rd h1 h2 h5 h3 h4) (sz_rd k1 k2 k5 k3 k4)
  refine (pmul_any (q := r) h1 (by omega) h2 (by omega) k1 (by omega) k2 (by omega) hB (by rw [h5, k5]; exact hr)).mono ?_
  rintro e w' ⟨A, c, B, d, rfl, R, R', hb⟩
  exact ⟨⟨zneg r.num, A, _, c, B, _, d⟩, rfl, ⟨rfl, R, R', by show (dig (zmag r.num)).length ≤ _; omega, by show (dig r.den).length ≤ _; omega⟩, hb⟩
theorem cmp_q {w : World} {Bd La Lb : Nat} {a b : Rc} {p q : Rat} {k : Int} (ha : Rq w Bd La a p) (ga : La ≤ 400000000) (hb : Rq w Bd Lb b q) (gb : Lb ≤ 400000000) (hB : Bd ≤ w.heap.size) (hr : sgn (p - q).num = k) : Calls Try.prog 24 #[.agg #[.bool a.s, .slice a.A a.n a.c, .slice a.B a.m a.d], .agg #[.bool b.s, .slice b.A b.n b.c, .slice b.B b.m b.d]] w (RetB w (.int .i64 k)) := by
  obtain ⟨xs, ys, h1, h2, h3, h4, h5⟩ := ha
  obtain ⟨us, vs, k1, k2, k3, k4, k5⟩ := hb
  exact pcmp_any h1 (by omega) h2 (by omega) k1 (by omega) k2 (by omega) hB (by rw [h5, k5]; exact hr)
theorem norm_q {w : World} {Bd La : Nat} {a : Rc} {p r : Rat} (ha : Rq w Bd La a p) (ga : La ≤ 400000000) (hB : Bd ≤ w.heap.size) (hr : p = r) : Calls Try.prog 61 #[.agg #[.bool a.s, .slice a.A a.n a.c, .slice a.B a.m a.d]] w (RetN w (La + 1) r) := by
  obtain ⟨xs, ys, h1, h2, h3, h4, h5⟩ := ha
  have z : (dig (zmag r.num)).length ≤ La + 1 ∧ (dig r.den).length ≤ La + 1 := by rw [← hr]; exact sz_rd h1 h2 h5 h3 h4
  refine (pnorm_any (q := r) h1 (by omega) h2 (by omega) hB (by rw [h5]; exact hr)).mono ?_
  rintro e w' ⟨A, c, B, d, rfl, R, R', hb⟩
  exact ⟨⟨zneg r.num, A, _, c, B, _, d⟩, rfl, ⟨rfl, R, R', z.1, z.2⟩, hb⟩
theorem abs_q {w : World} {Bd La : Nat} {a : Rc} {p r : Rat} (ha : Rq w Bd La a p) (ga : La ≤ 400000000) (hB : Bd ≤ w.heap.size) (hr : qabs p = r) : Calls Try.prog 26 #[.agg #[.bool a.s, .slice a.A a.n a.c, .slice a.B a.m a.d]] w (RetN w (La + 1) r) := by
  obtain ⟨xs, ys, h1, h2, h3, h4, h5⟩ := ha
  have z : (dig (zmag r.num)).length ≤ La + 1 ∧ (dig r.den).length ≤ La + 1 := sz_absq hr (sz_rd h1 h2 h5 h3 h4)
  refine (pabs_any (q := r) h1 (by omega) h2 (by omega) hB (by rw [h5]; exact hr)).mono ?_
  rintro e w' ⟨A, c, B, d, rfl, R, R', hb⟩
  exact ⟨⟨zneg r.num, A, _, c, B, _, d⟩, rfl, ⟨rfl, R, R', z.1, z.2⟩, hb⟩
theorem sign_q {w : World} {Bd La : Nat} {a : Rc} {p : Rat} {k : Int} (ha : Rq w Bd La a p) (ga : La ≤ 400000000) (hB : Bd ≤ w.heap.size) (hr : sgn p.num = k) : Calls Try.prog 23 #[.agg #[.bool a.s, .slice a.A a.n a.c, .slice a.B a.m a.d]] w (RetB w (.int .i64 k)) := by
  obtain ⟨xs, ys, h1, h2, h3, h4, h5⟩ := ha
  exact psign_any h1 (by omega) h2 (by omega) hB (by rw [h5]; exact hr)
theorem of_q {w : World} {x y : Int} {q : Rat} (hx0 : -9223372036854775808 ≤ x) (hx1 : x ≤ 9223372036854775807) (hy0 : -9223372036854775808 ≤ y) (hy1 : y ≤ 9223372036854775807) (hq : Rat.divInt x y = q) (hy : y ≠ 0) : Calls Try.prog 28 #[.int .i64 x, .int .i64 y] w (RetNB w 2 q true) := by
  have z : (dig (zmag q.num)).length ≤ 2 ∧ (dig q.den).length ≤ 2 := sz_divInt hq (lt64 hx0 hx1) (lt64 hy0 hy1) (by omega)
  refine (pof_any (q := q) hx0 hx1 hy0 hy1 hq (decide_eq_true hy)).mono ?_
  rintro e w' ⟨A, c, B, d, rfl, R, R', hb⟩
  exact ⟨⟨zneg q.num, A, _, c, B, _, d⟩, rfl, ⟨rfl, R, R', z.1, z.2⟩, hb⟩
theorem equal_q {w : World} {Bd La Lb : Nat} {a b : Rc} {p q : Rat} (ha : Nq w Bd La a p) (hb : Nq w Bd Lb b q) (hB : Bd ≤ w.heap.size) {r : Bool} (hr : decide (p = q) = r) : Calls Try.prog 25 #[.agg #[.bool a.s, .slice a.A a.n a.c, .slice a.B a.m a.d], .agg #[.bool b.s, .slice b.A b.n b.c, .slice b.B b.m b.d]] w (RetB w (.bool r)) := by
  obtain ⟨h1, h2, h3, h4, h5⟩ := ha
  obtain ⟨k1, k2, k3, k4, k5⟩ := hb
  have e1 := h2.len
  have e2 := h3.len
  have e3 := k2.len
  have e4 := k3.len
  obtain ⟨s, A, n, c, B, m, d⟩ := a
  obtain ⟨s', A', n', c', B', m', d'⟩ := b
  simp only at *
  subst h1 e1 e2 k1 e3 e4
  exact same_q h2 h3 k2 k3 hB hr


end Go.Proofs.Ytogafnfpncbgiaa
