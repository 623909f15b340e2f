/-
  RInt1, RInt2.
-/
import Derived.Test.YtonpeagedggakaaIntC
import Derived.Test.YtonpeagedggakaaRefSum
namespace Go.Proofs.Ytonpeagedggakaa
section
open Go.RowKit

theorem Box.both {W : World} {g : Nat} {a b : Value} (h : Box W g a b) (w' : World) (hb : Below W.heap.size W w') : w'.cell? ⟨g, 0, none⟩ = some a ∧ w'.cell? ⟨g, 1, none⟩ = some b ∧ w'.frozen? ⟨g, 0, none⟩ = false ∧ w'.frozen? ⟨g, 1, none⟩ = false ∧ g < w'.heap.size :=
  box_kept_at h h.lt_size (Nat.le_refl _) hb
theorem val_ieta (z : Int) : iv (zneg z) (val (dig (zmag z))) = z := by rw [val_dig, iv_eta]
theorem RetInt.box' {w w2 : World} {s : Bool} {m n c n' c' g : Nat} {A A' : Option Addr} {b : Bool} (hb : Below w.heap.size w w2) (hg : w.heap.size ≤ g) (hc0 : w2.cell? ⟨g, 0, none⟩ = some (.bool b)) (hc1 : w2.cell? ⟨g, 1, none⟩ = some (.slice A' n' c'))
    (R : Rd w2 w2.heap.size A n c (dig m)) (hs : m = 0 → s = false) :
    RetInt w (iv s m) (.returned (.agg #[.bool s, .slice A n c])) ((w2.setCell ⟨g, 0, none⟩ (.bool s)).setCell ⟨g, 1, none⟩ (.slice A n c)) := by
  have h1 : (w2.setCell ⟨g, 0, none⟩ (.bool s)).cell? ⟨g, 1, none⟩ = some (.slice A' n' c') := (World.cell?_setCell_other _ _ _ _ (by simp)).trans hc1
  refine RetInt.mk ?_ hs ((hb.setCell hg _).setCell hg _)
  have := (R.far (u := .bool s) hc0 (fun x h => by cases h)).far (u := .slice A n c) h1 (fun x h => by cases h)
  simpa using this

end

section
open Go.RowKit

end
end Go.Proofs.Ytonpeagedggakaa
