/-
  The reference's DivMod.
-/
import Derived.Test.YtdihgmbldnekhaaRIntA
import Derived.Test.YtdihgmbldnekhaaRefQuo
namespace Go.Proofs.Ytdihgmbldnekhaa
open Go.RowKit

theorem fq_norm {s s' : Bool} {x y : Nat} (h0 : y ≠ 0) : fq (zneg (iv s x)) (zneg (iv s' y)) x y = fq s s' x y := by
  rw [zneg_iv s' h0]
  by_cases hx : x = 0
  · subst hx
    rw [iv_zero, zneg_zero]
    unfold fq
    cases s <;> cases s' <;> simp
  · rw [zneg_iv s hx]
theorem fq_step (p p' : Bool) (hp : ¬ p = p') {x y : Nat} (h : ¬ x % y = 0) : iv true (x / y) - 1 = fq p p' x y := by rw [fq_below hp h, iv_true, iv_true]; omega
theorem fq_mag (p p' : Bool) (x y : Nat) : zmag (fq p p' x y) ≤ x / y + 1 := by
  unfold fq zmag
  generalize x / y = d
  generalize x % y = r
  split
  · omega
  · split <;> omega
theorem fq_len (p p' : Bool) (x y : Nat) : (dig (zmag (fq p p' x y))).length ≤ (dig x).length + 1 := by
  have h1 := dig_len_mono (Nat.div_le_self x y)
  have h5 := dig_len_mono (fq_mag p p' x y)
  have h6 : (dig (x / y + 1)).length ≤ (dig (x / y)).length + 1 := by
    rw [dig_len_le]
    have := (dig_len_le (x / y) (dig (x / y)).length).1 (Nat.le_refl _)
    rw [pw_succ]
    have := pw_pos (dig (x / y)).length
    omega
  omega

/-- all blocks below B but two are as they were -/
def KeptBut (g g' B : Nat) (W w' : World) : Prop := ∀ b, b < B → b ≠ g → b ≠ g' → w'.heap[b]? = W.heap[b]?
theorem KeptBut.refl (g g' B : Nat) (W : World) : KeptBut g g' B W W := fun _ _ _ _ => rfl
theorem KeptBut.drw {g g' B : Nat} (W : World) : KeptBut g g' B W W.drew := fun _ _ _ _ => rfl
theorem KeptBut.below {g g' : Nat} {W w' : World} (h : Below W.heap.size W w') : KeptBut g g' W.heap.size W w' := fun b hb _ _ => h.block b hb
theorem KeptBut.set0 {g g' B o : Nat} {W w' : World} (h : KeptBut g g' B W w') (v : Value) : KeptBut g g' B W (w'.setCell ⟨g, o, none⟩ v) := fun b hb h1 h2 => (Below.heap_setCell _ _ _ _ h1).trans (h b hb h1 h2)
theorem KeptBut.set1 {g g' B o : Nat} {W w' : World} (h : KeptBut g g' B W w') (v : Value) : KeptBut g g' B W (w'.setCell ⟨g', o, none⟩ v) := fun b hb h1 h2 => (Below.heap_setCell _ _ _ _ h2).trans (h b hb h1 h2)
theorem Box.but0 {W : World} {g g1 g2 : Nat} {a b : Value} (h : Box W g a b) (h1 : g ≠ g1) (h2 : g ≠ g2) : ∀ w', KeptBut g1 g2 W.heap.size W w' → w'.cell? ⟨g, 0, none⟩ = some a := fun w' hk => by
  rw [cell_of_row w' g 0 _ _ _ ((hk g h.lt_size h1 h2).trans h)]; rfl
theorem Box.but1 {W : World} {g g1 g2 : Nat} {a b : Value} (h : Box W g a b) (h1 : g ≠ g1) (h2 : g ≠ g2) : ∀ w', KeptBut g1 g2 W.heap.size W w' → w'.cell? ⟨g, 1, none⟩ = some b := fun w' hk => by
  rw [cell_of_row w' g 1 _ _ _ ((hk g h.lt_size h1 h2).trans h)]; rfl
theorem Box.set {W : World} {g : Nat} {a b : Value} (h : Box W g a b) (a' b' : Value) : Box ((W.setCell ⟨g, 0, none⟩ a').setCell ⟨g, 1, none⟩ b') g a' b' :=
  heap_setCell_same _ g 1 _ _ b' (heap_setCell_same W g 0 _ _ a' h)
theorem Box.other {W : World} {g g' o : Nat} {a b : Value} (h : Box W g a b) (hne : g ≠ g') (v : Value) : Box (W.setCell ⟨g', o, none⟩ v) g a b := (Below.heap_setCell _ _ _ _ hne).trans h

theorem RetDM_dig (w : World) (m1 m2 : Nat) (e : Ending) (w' : World) : RetDM w (val (dig m1)) (val (dig m2)) e w' = RetDM w m1 m2 e w' := by rw [val_dig, val_dig]

end Go.Proofs.Ytdihgmbldnekhaa
