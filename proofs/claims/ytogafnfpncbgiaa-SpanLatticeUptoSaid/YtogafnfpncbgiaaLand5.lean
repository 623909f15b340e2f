/-
  A region that makes a box for a ratio.
-/
import Derived.Test.YtogafnfpncbgiaaAwake5
namespace Go.Proofs.Ytogafnfpncbgiaa
open Go.RowKit


theorem Rq.al_drew {w : World} {L : Nat} {x : Rc} {q : Rat} (h : Rq w.drew w.drew.heap.size L x q) (o : Obj) : Rq (w.alloc o).drew (w.alloc o).drew.heap.size L x q := Rq.al_ (w := w.drew) h o
theorem Nq.al_drew {w : World} {L : Nat} {x : Rc} {q : Rat} (h : Nq w.drew w.drew.heap.size L x q) (o : Obj) : Nq (w.alloc o).drew (w.alloc o).drew.heap.size L x q := Nq.al_ (w := w.drew) h o
/-- the box with the ratio in it -/
def LandN (W w' : World) (g L : Nat) (x : Rc) (q : Rat) : Prop :=
  Below W.heap.size W w' ∧ Box3 w' g (.bool x.s) (.slice x.A x.n x.c) (.slice x.B x.m x.d) ∧ Nq w' w'.heap.size L x q ∧ W.heap.size ≤ g
theorem LandN.below {W w' : World} {g L : Nat} {x : Rc} {q : Rat} (h : LandN W w' g L x q) : Below W.heap.size W w' := h.1
theorem landN_new {W w : World} {L : Nat} {x : Rc} {q : Rat} (h : Below W.heap.size W w) (R : Nq w w.heap.size L x q) : LandN W (w.alloc (.cells #[.bool x.s, .slice x.A x.n x.c, .slice x.B x.m x.d] 27)) w.heap.size L x q := ⟨Below.al_ h _, Box3.new w _ _ _ rfl, R.al_ _, h.size⟩
theorem landN_set {W w : World} {g L : Nat} {x : Rc} {q : Rat} (h : Below W.heap.size W w) (R : Nq w w.heap.size L x q) (X : XBox3 W w g) : LandN W (((w.setCell ⟨g, 0, none⟩ (.bool x.s)).setCell ⟨g, 1, none⟩ (.slice x.A x.n x.c)).setCell ⟨g, 2, none⟩ (.slice x.B x.m x.d)) g L x q := by
  obtain ⟨c0, c1, c2, _, _, _, _⟩ := X.facts
  exact ⟨((h.setCell X.2 _).setCell X.2 _).setCell X.2 _, Box3.set X.1 _ _ _, R.set3 (y := ⟨false, none, 0, 0, none, 0, 0⟩) c0 c1 c2 _ _ _, X.2⟩
theorem landN_late {W w : World} {L : Nat} {x : Rc} {q : Rat} (h : Below W.heap.size W w) (R : Nq w w.heap.size L x q) : LandN W ((((w.alloc (.cells #[.bool false, .slice none 0 0, .slice none 0 0] 27)).setCell ⟨w.heap.size, 0, none⟩ (.bool x.s)).setCell ⟨w.heap.size, 1, none⟩ (.slice x.A x.n x.c)).setCell ⟨w.heap.size, 2, none⟩ (.slice x.B x.m x.d)) w.heap.size L x q :=
  landN_set (Below.al_ h _) (R.al_ _) ⟨Box3.new w _ _ _ rfl, h.size⟩


end Go.Proofs.Ytogafnfpncbgiaa
