/-
  Int6.
-/
import Derived.Test.YtdihgmbldnekhaaIntB
import Derived.Test.YtdihgmbldnekhaaNatLong
import Derived.Test.YtdihgmbldnekhaaNatMem
namespace Go.Proofs.Ytdihgmbldnekhaa
section
open Go.RowKit

theorem dig_one : dig 1 = [1] := by rw [dig_pos (by omega), show 1 / 4294967296 = 0 from rfl, dig_zero]
/-- the floored quotient, by signs and magnitudes -/
def fq (s s' : Bool) (x y : Nat) : Int := if s = s' then ((x / y : Nat) : Int) else if x % y = 0 then -((x / y : Nat) : Int) else -((x / y + 1 : Nat) : Int)
def fr (s s' : Bool) (x y : Nat) : Int := iv s x - iv s' y * fq s s' x y
theorem fq_same (s : Bool) (x y : Nat) : fq s s x y = iv false (x / y) := by unfold fq; rw [if_pos rfl, iv_false]
theorem fq_whole {s s' : Bool} (hs : ¬ s = s') {x y : Nat} (h : x % y = 0) : fq s s' x y = iv true (x / y) := by unfold fq; rw [if_neg hs, if_pos h, iv_true]
theorem fq_below {s s' : Bool} (hs : ¬ s = s') {x y : Nat} (h : ¬ x % y = 0) : fq s s' x y = iv true (x / y + 1) := by unfold fq; rw [if_neg hs, if_neg h, iv_true]
theorem dm_int (x y : Nat) : (x : Int) = y * ((x / y : Nat) : Int) + ((x % y : Nat) : Int) := by exact_mod_cast (Nat.div_add_mod x y).symm
theorem fr_same (s : Bool) (x y : Nat) : fr s s x y = iv s (x % y) := by
  unfold fr; rw [fq_same, iv_false]
  have h := dm_int x y
  cases s
  · simp only [iv_false]; omega
  · simp only [iv_true, Int.neg_mul]; omega
theorem fr_whole {s s' : Bool} (hs : ¬ s = s') {x y : Nat} (h : x % y = 0) : fr s s' x y = 0 := by
  unfold fr; rw [fq_whole hs h, iv_true]
  have e := dm_int x y
  rw [h] at e
  cases s <;> cases s'
  · exact absurd rfl hs
  · simp only [iv_true, iv_false, Int.neg_mul, Int.mul_neg]; omega
  · simp only [iv_true, iv_false, Int.mul_neg]; omega
  · exact absurd rfl hs
theorem fr_below {s s' : Bool} (hs : ¬ s = s') {x y : Nat} (h : ¬ x % y = 0) (h0 : y ≠ 0) : fr s s' x y = iv s' (y - x % y) := by
  unfold fr; rw [fq_below hs h, iv_true]
  have e := dm_int x y
  have hl := Nat.mod_lt x (Nat.pos_of_ne_zero h0)
  have e2 : (y : Int) * ((x / y + 1 : Nat) : Int) = y * ((x / y : Nat) : Int) + y := by rw [Int.natCast_add, Int.mul_add]; omega
  cases s <;> cases s'
  · exact absurd rfl hs
  · simp only [iv_true, iv_false, Int.neg_mul, Int.mul_neg, e2]; omega
  · simp only [iv_true, iv_false, Int.mul_neg, e2]; omega
  · exact absurd rfl hs
/-- what DivMod hands back -/
def RetIDM (w : World) (q r : Int) (ok : Bool) (e : Ending) (w' : World) : Prop :=
  ∃ A c A' c', e = .returned (.tuple #[.agg #[.bool (zneg q), .slice A (dig (zmag q)).length c], .agg #[.bool (zneg r), .slice A' (dig (zmag r)).length c'], .bool ok]) ∧
    Rd w' w'.heap.size A (dig (zmag q)).length c (dig (zmag q)) ∧ Rd w' w'.heap.size A' (dig (zmag r)).length c' (dig (zmag r)) ∧ Below w.heap.size w w'
theorem RetIDM.box {w w2 : World} {q r : Int} {A1 A2 B1 B2 : Option Addr} {c1 c2 n1 n2 d1 d2 g g' : Nat} {b1 b2 ok : Bool} (hb : Below w.heap.size w w2) (hg : w.heap.size ≤ g) (hgg : g < g')
    (hc0 : w2.cell? ⟨g, 0, none⟩ = some (.bool b1)) (hc1 : w2.cell? ⟨g, 1, none⟩ = some (.slice B1 n1 d1)) (hd0 : w2.cell? ⟨g', 0, none⟩ = some (.bool b2)) (hd1 : w2.cell? ⟨g', 1, none⟩ = some (.slice B2 n2 d2))
    (R1 : Rd w2 w2.heap.size A1 (dig (zmag q)).length c1 (dig (zmag q))) (R2 : Rd w2 w2.heap.size A2 (dig (zmag r)).length c2 (dig (zmag r))) :
    RetIDM w q r ok (.returned (.tuple #[.agg #[.bool (zneg q), .slice A1 (dig (zmag q)).length c1], .agg #[.bool (zneg r), .slice A2 (dig (zmag r)).length c2], .bool ok]))
      ((((w2.setCell ⟨g, 0, none⟩ (.bool (zneg q))).setCell ⟨g, 1, none⟩ (.slice A1 (dig (zmag q)).length c1)).setCell ⟨g', 0, none⟩ (.bool (zneg r))).setCell ⟨g', 1, none⟩ (.slice A2 (dig (zmag r)).length c2)) := by
  have h1 : (w2.setCell ⟨g, 0, none⟩ (.bool (zneg q))).cell? ⟨g, 1, none⟩ = some (.slice B1 n1 d1) := (World.cell?_setCell_other _ _ _ _ (by simp)).trans hc1
  have h2 : ((w2.setCell ⟨g, 0, none⟩ (.bool (zneg q))).setCell ⟨g, 1, none⟩ (.slice A1 (dig (zmag q)).length c1)).cell? ⟨g', 0, none⟩ = some (.bool b2) :=
    ((World.cell?_setCell_other _ _ _ _ (by simp)).trans (World.cell?_setCell_other _ _ _ _ (by simp <;> omega))).trans hd0
  have h3 : (((w2.setCell ⟨g, 0, none⟩ (.bool (zneg q))).setCell ⟨g, 1, none⟩ (.slice A1 (dig (zmag q)).length c1)).setCell ⟨g', 0, none⟩ (.bool (zneg r))).cell? ⟨g', 1, none⟩ = some (.slice B2 n2 d2) :=
    ((World.cell?_setCell_other _ _ _ _ (by simp)).trans ((World.cell?_setCell_other _ _ _ _ (by simp <;> omega)).trans (World.cell?_setCell_other _ _ _ _ (by simp <;> omega)))).trans hd1
  have far : ∀ {A n c xs}, Rd w2 w2.heap.size A n c xs → Rd ((((w2.setCell ⟨g, 0, none⟩ (.bool (zneg q))).setCell ⟨g, 1, none⟩ (.slice A1 (dig (zmag q)).length c1)).setCell ⟨g', 0, none⟩ (.bool (zneg r))).setCell ⟨g', 1, none⟩ (.slice A2 (dig (zmag r)).length c2)) w2.heap.size A n c xs :=
    fun R => (((R.far hc0 (fun x h => by cases h)).far h1 (fun x h => by cases h)).far h2 (fun x h => by cases h)).far h3 (fun x h => by cases h)
  have hg' : w.heap.size ≤ g' := by omega
  refine ⟨A1, c1, A2, c2, rfl, ?_, ?_, ((((hb.setCell hg _).setCell hg _).setCell hg' _).setCell hg' _)⟩
  · simpa using far R1
  · simpa using far R2

end
end Go.Proofs.Ytdihgmbldnekhaa
