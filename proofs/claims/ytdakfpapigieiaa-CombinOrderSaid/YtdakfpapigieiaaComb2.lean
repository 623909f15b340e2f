/-
  Multinomial coefficients.
-/
import Derived.Test.YtdakfpapigieiaaComb1
namespace Go.Proofs.Ytdakfpapigieiaa

/-- the product of the factorials -/
def facs : List Nat → Nat
  | [] => 1
  | x :: l => fac x * facs l
def tot : List Nat → Nat
  | [] => 0
  | x :: l => x + tot l
/-- the product of the binomial coefficients of the partial sums, s before the first -/
def mlt (s : Nat) : List Nat → Nat
  | [] => 1
  | x :: l => ch (s + x) x * mlt (s + x) l
theorem facs_pos : ∀ l, 0 < facs l
  | [] => by decide
  | x :: l => Nat.mul_pos (fac_pos x) (facs_pos l)
theorem mlt_fac : ∀ (s : Nat) (l : List Nat), mlt s l * facs l * fac s = fac (s + tot l)
  | s, [] => by simp [mlt, facs, tot]
  | s, x :: l => by
    have h1 := mlt_fac (s + x) l
    have h2 := ch_fac (n := s + x) (k := x) (by omega)
    rw [show s + x - x = s by omega] at h2
    rw [mlt, facs, tot, ← Nat.add_assoc, ← h1, ← h2]
    grind
theorem mlt_eq (l : List Nat) : mlt 0 l * facs l = fac (tot l) := by
  have := mlt_fac 0 l
  rw [Nat.zero_add, show fac 0 = 1 from rfl, Nat.mul_one] at this
  exact this
theorem mlt_quo (l : List Nat) : fac (tot l) / facs l = mlt 0 l := by rw [← mlt_eq, Nat.mul_div_cancel _ (facs_pos l)]
theorem tot_append (l m : List Nat) : tot (l ++ m) = tot l + tot m := by
  induction l with
  | nil => simp [tot]
  | cons x l ih => simp only [List.cons_append, tot, ih]; omega
theorem facs_append (l m : List Nat) : facs (l ++ m) = facs l * facs m := by
  induction l with
  | nil => simp [facs]
  | cons x l ih => simp only [List.cons_append, facs, ih, Nat.mul_assoc]
theorem tot_reverse (l : List Nat) : tot l.reverse = tot l := by
  induction l with
  | nil => rfl
  | cons x l ih => rw [List.reverse_cons, tot_append, ih]; simp [tot]; omega
theorem facs_reverse (l : List Nat) : facs l.reverse = facs l := by
  induction l with
  | nil => rfl
  | cons x l ih => rw [List.reverse_cons, facs_append, ih]; simp [facs]; rw [Nat.mul_comm]
theorem mlt_reverse (l : List Nat) : mlt 0 l.reverse = mlt 0 l := by rw [← mlt_quo, ← mlt_quo, tot_reverse, facs_reverse]
theorem mlt_pos (l : List Nat) : 0 < mlt 0 l := by
  have h := mlt_eq l
  refine Nat.pos_of_ne_zero fun e => ?_
  rw [e, Nat.zero_mul] at h
  have := fac_pos (tot l)
  omega
/-- one division after another -/
def divs (n : Nat) : List Nat → Nat
  | [] => n
  | x :: l => divs (n / fac x) l
theorem divs_eq : ∀ (n : Nat) (l : List Nat), divs n l = n / facs l
  | n, [] => by simp [divs, facs]
  | n, x :: l => by rw [divs, divs_eq, facs, Nat.div_div_eq_div_mul]
theorem divs_mlt (l : List Nat) : divs (fac (tot l)) l = mlt 0 l := by rw [divs_eq, mlt_quo]
/-- partial sums, from the left -/
theorem mlt_append : ∀ (s : Nat) (l m : List Nat), mlt s (l ++ m) = mlt s l * mlt (s + tot l) m
  | s, [], m => by simp [mlt, tot]
  | s, x :: l, m => by rw [List.cons_append, mlt, mlt_append, mlt, tot, Nat.mul_assoc, Nat.add_assoc]
theorem mlt_le (l : List Nat) : mlt 0 l ≤ fac (tot l) := by
  rw [← mlt_eq]
  exact Nat.le_mul_of_pos_right _ (facs_pos l)
end Go.Proofs.Ytdakfpapigieiaa
