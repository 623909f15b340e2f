/-
  ExactExchange.
-/
import Derived.Test.YtdihgmbldnekhaaAwkB
import Derived.Test.YtdihgmbldnekhaaExRA
namespace Go.Proofs.Ytdihgmbldnekhaa
open Go.RowKit

/-- a list in normal form was handed back, beside an error -/
def RetLF (w : World) (L n : Nat) (z : Nat → Rat) (k : Int) (e : Ending) (w' : World) : Prop :=
  ∃ (A : Option Addr) (c : Nat) (Z : Nat → Rc), e = .returned (.tuple #[.slice A n c, .int .i64 k]) ∧ LQ (fun _ => true) w' w'.heap.size L A n c Z z ∧ Below w.heap.size w w'
theorem RetLE.fix {w : World} {L n : Nat} {z : Nat → Rat} {k : Int} {e : Ending} {w' : World} (h : RetLE w L n z k e w') : RetLF w L n z k e w' := by
  obtain ⟨A, c, Z, y, h1, h2, h3, h4⟩ := h
  exact ⟨A, c, Z, h1, h2.congr h3, h4⟩
def RetRF (w : World) (L : Nat) (q : Rat) (e : Ending) (w' : World) : Prop :=
  ∃ x : Rc, e = .returned (.tuple #[.agg #[.bool x.s, .slice x.A x.n x.c, .slice x.B x.m x.d], .int .i64 0]) ∧ Nq w' w'.heap.size L x q ∧ Below w.heap.size w w'
theorem RetRE.fix {w : World} {L : Nat} {q r : Rat} {k : Int} (hk : k = 0) (hq : q = r) {e : Ending} {w' : World} (h : RetRE w L q k e w') : RetRF w L r e w' := by
  obtain ⟨x, h1, h2, _, h4⟩ := h
  subst hk hq
  exact ⟨x, h1, h2 rfl, h4⟩
theorem wrap64 {n : Nat} (h : n < 9223372036854775808) : IntKind.i64.wrap (n : Int) = (n : Int) := by rw [IntKind.wrap_i64]; omega
theorem wrap32 {n : Nat} (h : n < 4294967296) : IntKind.u32.wrap (n : Int) = (n : Int) := by
  simp only [IntKind.wrap, IntKind.bits, IntKind.signed]
  simp
  omega
theorem hyN_no {t m d : Nat} (h : ¬ (t ≤ 120 ∧ m ≤ t ∧ d ≤ t)) : hyN t m d = (3, 0) := by
  unfold hyN
  rw [if_neg]
  simp only [decide_eq_true_eq]
  rintro ⟨⟨h1, h2⟩, ⟨h3, h4⟩, h5, h6⟩
  exact h ⟨by omega, by omega, by omega⟩
theorem hyp_in {t m d : Nat} (hd : d ≤ t) (k : Nat) : In (ch t d) (hyp t m d k) := by
  have hne := cq_ne hd
  refine ⟨ch m k * ch (t - m) (d - k), ?_⟩
  rw [Rat.natCast_mul]
  show hyp t m d k * cq t d = cq m k * cq (t - m) (d - k)
  unfold hyp
  exact Rat.div_mul_cancel hne
theorem hyp_nonneg {t m d : Nat} (hd : d ≤ t) (k : Nat) : 0 ≤ hyp t m d k := by
  obtain ⟨a, ha⟩ := hyp_in (m := m) hd k
  have h1 : (0 : Rat) < ((ch t d : Nat) : Rat) := by
    have h2 : (0 : Rat) ≤ ((ch t d : Nat) : Rat) := Rat.natCast_nonneg
    have h3 := natCast_ne (Nat.pos_iff_ne_zero.1 (ch_pos hd))
    grind
  have h4 : (0 : Rat) ≤ (a : Rat) := Rat.natCast_nonneg
  rw [← ha] at h4
  by_cases h5 : 0 ≤ hyp t m d k
  · exact h5
  · have h6 := Rat.mul_lt_mul_of_pos_right (Rat.not_le.1 h5) h1
    rw [Rat.zero_mul] at h6
    grind
theorem hyp_vld {t m d : Nat} (ht : t ≤ 120) (hm : m ≤ t) (hd : d ≤ t) : VldQ (min m d + 1) (hyp t m d) :=
  ⟨by omega, fun i _ => hyp_nonneg hd i, hyp_sum hm hd⟩
theorem hyp_mq {t m d : Nat} (hm : m ≤ t) (hd : d ≤ t) (ht : 0 < t) : qs (mq 1 (hyp t m d)) (min m d + 1) = (m : Rat) / (t : Rat) * (d : Rat) := by
  rw [← hyp_mean hm hd ht]
  exact qs_congr fun i _ => by
    simp only [mq]
    rw [if_neg (by decide)]
    grind
theorem qv_frac {a b : Nat} (hb : b ≠ 0) : qv false a b = (a : Rat) / (b : Rat) := by
  rw [qv_ne hb, Rat.divInt_eq_div, Rat.intCast_natCast]
  rfl
end Go.Proofs.Ytdihgmbldnekhaa
