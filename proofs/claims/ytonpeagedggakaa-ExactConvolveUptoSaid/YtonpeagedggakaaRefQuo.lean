/-
  RefDiv, RefDiv2, RefDivMod.
-/
import Derived.Test.YtonpeagedggakaaRefMove
import Derived.Test.YtonpeagedggakaaRefTexts
import Derived.Test.YtonpeagedggakaaNatLong
import Derived.Test.YtonpeagedggakaaNatBits
namespace Go.Proofs.Ytonpeagedggakaa
section
open Go.RowKit

def RetSubF (w : World) (m : Nat) (e : Ending) (w' : World) : Prop :=
  ∃ g, w.heap.size ≤ g ∧ e = .returned (.tuple #[.slice (some ⟨g, 0, none⟩) (dig m).length (dig m).length, .bool true]) ∧ Own w' g (dig m) ∧ Below w.heap.size w w' ∧ (dig m).length ≤ 70368744177664

end

section
open Go.RowKit

theorem limb_mod {os : List Nat} {sh r : Nat} (hsh : sh < os.length) (hL : Limbs os) (hr : r < 32) (h : val os % (pw sh * 2 ^ (r + 1)) = 0) : lm os sh % 2 ^ (r + 1) = 0 := by
  have e := val_split os (k := sh) (by omega)
  have h1 := vl_lt hL sh
  have hp := pw_pos sh
  have h2 : val os % pw sh = 0 := by
    have := Nat.mod_mod_of_dvd (val os) (Nat.dvd_mul_right (pw sh) (2 ^ (r + 1)))
    rw [h] at this
    simpa using this.symm
  have h3 : vl os sh = 0 := by
    rw [e, Nat.add_mul_mod_self_left, Nat.mod_eq_of_lt h1] at h2
    exact h2
  rw [e, h3, Nat.zero_add, Nat.mul_mod_mul_left] at h
  have h4 : val (os.drop sh) % 2 ^ (r + 1) = 0 := by
    rcases Nat.mul_eq_zero.1 h with h5 | h5
    · omega
    · exact h5
  have e2 : (4294967296 : Nat) = 2 ^ (r + 1) * 2 ^ (31 - r) := by rw [← Nat.pow_add, show r + 1 + (31 - r) = 32 by omega]
  rw [val_drop hsh, e2, Nat.mul_assoc, Nat.add_mul_mod_self_left] at h4
  exact h4
theorem vl_set_add {os : List Nat} {k c : Nat} (hk : k < os.length) (m : Nat) (h : k < m) : vl (os.set k (lm os k + c)) m = vl os m + pw k * c := by
  induction m with
  | zero => omega
  | succ m ih =>
    by_cases hm : k = m
    · subst hm
      rw [vl_succ, vl_set _ (Nat.le_refl _), lm_set_eq _ hk, vl_succ, Nat.mul_add]
      omega
    · rw [vl_succ, lm_set_ne _ hm, ih (by omega), vl_succ]
      omega
theorem val_set_add {os : List Nat} {k c : Nat} (hk : k < os.length) : val (os.set k (lm os k + c)) = val os + pw k * c := by
  unfold val
  rw [List.length_set]
  exact vl_set_add hk _ hk
theorem or_bit {t r : Nat} (hr : r < 32) (ht : t < 4294967296) (h : t % 2 ^ (r + 1) = 0) : bits BinOp.or IntKind.u32 (t : Int) ((2 : Int) ^ r % 4294967296) = ((t + 2 ^ r : Nat) : Int) ∧ t + 2 ^ r < 4294967296 := by
  have h1 : (2 : Nat) ^ r < 2 ^ 32 := Nat.pow_lt_pow_right (by omega) hr
  have h2 : (2 : Nat) ^ r < 2 ^ (r + 1) := Nat.pow_lt_pow_right (by omega) (by omega)
  have e : ((2 : Int) ^ r % 4294967296) = ((2 ^ r : Nat) : Int) := by
    rw [show ((2 : Int) ^ r) = ((2 ^ r : Nat) : Int) by simp]
    omega
  have h3 : t ||| 2 ^ r = t + 2 ^ r := nat_join (r + 1) t (2 ^ r) h h2
  rw [e, u32_or_nat _ _ ht (by omega), h3]
  refine ⟨rfl, ?_⟩
  rw [← h3]
  exact Nat.or_lt_two_pow (n := 32) (by omega) (by omega)

end

section
open Go.RowKit

end
end Go.Proofs.Ytonpeagedggakaa
