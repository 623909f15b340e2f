/-
  RefHalf, RefShift.
-/
import Derived.Test.YtonpeagedggakaaRefSum
import Derived.Test.YtonpeagedggakaaNatKnuth
namespace Go.Proofs.Ytonpeagedggakaa
section
open Go.RowKit

theorem Rd.drw {w : World} {Bd : Nat} {A : Option Addr} {n c : Nat} {xs : List Nat} (h : Rd w Bd A n c xs) : Rd w.drew Bd A n c xs := ⟨h.len, h.limbs, h.cap, h.big, h.cbig, h.cells⟩
theorem Own.drw {w : World} {g : Nat} {os : List Nat} (h : Own w g os) : Own w.drew g os := ⟨h.limbs, h.blk⟩
theorem Below.drw {B : Nat} {w X : World} (h : Below B w X) : Below B w X.drew := ⟨h.os, h.tape, h.output, h.size, h.block⟩
/-- a result in a block of the call's own -/
def RetFresh (w : World) (m : Nat) (e : Ending) (w' : World) : Prop :=
  ∃ g, w.heap.size ≤ g ∧ e = .returned (.slice (some ⟨g, 0, none⟩) (dig m).length (dig m).length) ∧ Own w' g (dig m) ∧ Below w.heap.size w w' ∧ (dig m).length ≤ 70368744177664
theorem RetOwn.fresh {w w1 : World} {m : Nat} {e : Ending} {w' : World} (h : RetOwn w1 m e w') (hb : Below w.heap.size w w1) : RetFresh w m e w' :=
  ⟨_, hb.size, h.1, h.2.1, hb.trans (h.2.2.1.mono hb.size), h.2.2.2⟩

theorem half_step {xs os : List Nat} {k : Nat} (hk : k < os.length) (h : 2 * vl os k + lm xs 0 % 2 = vl xs k + pw k * (lm xs k % 2)) (o : Nat) (ho : 2 * o + lm xs k % 2 = lm xs k + 4294967296 * (lm xs (k + 1) % 2)) :
    2 * vl (os.set k o) (k + 1) + lm xs 0 % 2 = vl xs (k + 1) + pw (k + 1) * (lm xs (k + 1) % 2) := by
  rw [vl_succ, vl_set _ (Nat.le_refl _), lm_set_eq _ hk, vl_succ, pw_succ]
  have : pw k * (2 * o + lm xs k % 2) = pw k * (lm xs k + 4294967296 * (lm xs (k + 1) % 2)) := by rw [ho]
  grind

end

section
open Go.RowKit

theorem pw_pow (sh r : Nat) : pw sh * 2 ^ r = 2 ^ (32 * sh + r) := by
  induction sh with
  | zero => simp [pw]
  | succ sh ih =>
    rw [pw_succ, show 32 * (sh + 1) + r = 32 + (32 * sh + r) by omega, Nat.pow_add, ← ih, Nat.mul_assoc]

theorem lm_rep (n j : Nat) : lm (List.replicate n 0) j = 0 := by
  unfold lm
  rw [List.getD_eq_getElem?_getD, List.getElem?_replicate]
  split <;> rfl
theorem shl_val {l r : Nat} (hr : 2 ^ r ≤ 2147483648) (hl : l < 4294967296) : IntKind.u64.wrap ((l : Int) * 2 ^ r) = ((l * 2 ^ r : Nat) : Int) := by
  have h1 : l * 2 ^ r ≤ 4294967295 * 2147483648 := Nat.mul_le_mul (by omega) hr
  have e1 : ((l : Int) * 2 ^ r) = ((l * 2 ^ r : Nat) : Int) := by simp
  rw [e1]
  generalize l * 2 ^ r = t at *
  simp only [IntKind.wrap, IntKind.bits, IntKind.signed]
  simp
  omega
theorem or_top {t l r : Nat} (hr : r < 32) (ht : t < 2 ^ r) : t ||| (l * 2 ^ r % 4294967296) = t + l * 2 ^ r % 4294967296 ∧ t + l * 2 ^ r % 4294967296 < 4294967296 := by
  have e : (4294967296 : Nat) = 2 ^ (32 - r) * 2 ^ r := by rw [← Nat.pow_add, show 32 - r + r = 32 by omega]
  have h0 : l * 2 ^ r % 4294967296 % 2 ^ r = 0 := by rw [e, Nat.mul_mod_mul_right]; exact Nat.mul_mod_left _ _
  have h1 : t ||| (l * 2 ^ r % 4294967296) = t + l * 2 ^ r % 4294967296 := by rw [Nat.or_comm, nat_join r _ t h0 ht, Nat.add_comm]
  refine ⟨h1, ?_⟩
  rw [← h1]
  have ht2 : 2 ^ r ≤ 2 ^ 32 := Nat.pow_le_pow_right (by omega) (by omega)
  exact Nat.or_lt_two_pow (n := 32) (by omega) (by omega)

theorem rshift_step {xs os : List Nat} {i sh r P : Nat} (hP : pw sh * 2 ^ r = P) (hl : i + sh + 1 < os.length) (h : vl os (i + sh + 1) = vl xs i * P) (u : Nat) (hu : u = lm os (i + sh) + lm xs i * 2 ^ r % 4294967296) :
    vl ((os.set (i + sh) u).set (i + sh + 1) (lm xs i * 2 ^ r / 4294967296)) (i + 1 + sh + 1) = vl xs (i + 1) * P := by
  rw [show i + 1 + sh + 1 = (i + sh + 1) + 1 by omega, vl_succ, vl_set _ (Nat.le_refl _), lm_set_eq _ (by rw [List.length_set]; omega), vl_succ, vl_set _ (Nat.le_refl _), lm_set_eq _ (by omega), vl_succ, Nat.add_mul, ← h, vl_succ, hu]
  have e := step_low (vl os (i + sh) + pw (i + sh) * lm os (i + sh)) (pw (i + sh)) (lm xs i * 2 ^ r)
  rw [← pw_succ] at e
  have e2 : pw (i + sh) * (lm xs i * 2 ^ r) = pw i * lm xs i * P := by rw [← hP, pw_add]; grind
  rw [e2] at e
  rw [← e, Nat.mul_add]
  omega

end
end Go.Proofs.Ytonpeagedggakaa
