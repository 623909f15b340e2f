/-
  The reference's half and Shift.
-/
import Derived.Test.YtjbbapibpcgnhaaRef2
namespace Go.Proofs.Ytjbbapibpcgnhaa
open Go.RowKit

theorem Rd.drw {w : World} {Bd : Nat} {A : Option Addr} {n c : Nat} {xs : List Nat} (h : Rd w Bd A n c xs) : Rd w.drew Bd A n c xs := ⟨h.len, h.limbs, h.cap, h.big, h.cbig, h.cells⟩
theorem Own.drw {w : World} {g : Nat} {os : List Nat} (h : Own w g os) : Own w.drew g os := ⟨h.limbs, h.blk⟩
theorem Below.drw {B : Nat} {w X : World} (h : Below B w X) : Below B w X.drew := ⟨h.os, h.tape, h.output, h.size, h.block⟩
/-- a result in a block of the call's own -/
def RetFresh (w : World) (m : Nat) (e : Ending) (w' : World) : Prop :=
  ∃ g, w.heap.size ≤ g ∧ e = .returned (.slice (some ⟨g, 0, none⟩) (dig m).length (dig m).length) ∧ Own w' g (dig m) ∧ Below w.heap.size w w' ∧ (dig m).length ≤ 70368744177664
theorem RetOwn.fresh {w w1 : World} {m : Nat} {e : Ending} {w' : World} (h : RetOwn w1 m e w') (hb : Below w.heap.size w w1) : RetFresh w m e w' :=
  ⟨_, hb.size, h.1, h.2.1, hb.trans (h.2.2.1.mono hb.size), h.2.2.2⟩

theorem half_step {xs os : List Nat} {k : Nat} (hk : k < os.length) (h : 2 * vl os k + lm xs 0 % 2 = vl xs k + pw k * (lm xs k % 2)) (o : Nat) (ho : 2 * o + lm xs k % 2 = lm xs k + 4294967296 * (lm xs (k + 1) % 2)) :
    2 * vl (os.set k o) (k + 1) + lm xs 0 % 2 = vl xs (k + 1) + pw (k + 1) * (lm xs (k + 1) % 2) := by
  rw [vl_succ, vl_set _ (Nat.le_refl _), lm_set_eq _ hk, vl_succ, pw_succ]
  have : pw k * (2 * o + lm xs k % 2) = pw k * (lm xs k + 4294967296 * (lm xs (k + 1) % 2)) := by rw [ho]
  grind

set_option maxHeartbeats 1000000 in
theorem rhalf_any (w : World) (Bd : Nat) (A : Option Addr) (n c : Nat) (xs : List Nat) (h : Rd w Bd A n c xs) (hB : Bd ≤ w.heap.size) :
    Calls Try.prog 75 #[.slice A n c] w (RetFresh w (val xs / 2)) := by
  have hbig := h.big
  have hcap := h.cap
  have H := hide h
  clear h
  go_enter Try.func75, Try.ntmps75
  go_wp2_with (at_make; refine wpList_make_nat _ rfl _ _ rfl _ _ _ _ n rfl rfl (by omega) (by omega) (by omega) ?_; intro w1 hown hb hg)
  go_loopw [4] (fun i wr => ∃ (k : Nat) (os : List Nat), k ≤ n ∧ i = .int .i64 (k : Int) ∧ os.length = n ∧ 2 * vl os k + lm xs 0 % 2 = vl xs k + pw k * (lm xs k % 2) ∧ Own wr w.heap.size os ∧ Below w.heap.size w wr) (fun i _ => n - (intOf i).toNat)
  case atStart => exact ⟨0, List.replicate n 0, by omega, rfl, List.length_replicate, by simp [vl, pw], hown, hb⟩
  case round =>
    obtain ⟨k, os, hk, rfl, hos, hval, hO, hBl⟩ := hrel
    by_cases hkn : k < n
    · have hco := hO.cell (j := k) (by omega)
      have hfo := hO.frozen k
      obtain ⟨ad, rfl, hadb, hca⟩ := (H.out.below (hBl.mono hB)).at_ hkn
      have HR := hide (H.out.below (hBl.mono hB))
      have l1 := H.out.limbs k
      have l2 := H.out.limbs (k + 1)
      have hst := hide (fun o => half_step (xs := xs) (os := os) (k := k) (by omega) hval o)
      replace hO := hide hO
      replace hBl := hide hBl
      clear hval
      have hne : ad.block ≠ w.heap.size := by omega
      have hne2 : w.heap.size ≠ ad.block := by omega
      obtain ⟨o, ho⟩ : ∃ o, o = ((lm xs (k + 1) * 4294967296 + lm xs k) / 2) % 4294967296 := ⟨_, rfl⟩
      have ho2 : o < 4294967296 := by omega
      have ho3 : 2 * o + lm xs k % 2 = lm xs k + 4294967296 * (lm xs (k + 1) % 2) := by omega
      have hw : Hid (((lm xs (k + 1) : Int) * 4294967296 + (lm xs k : Int)) / 2 % 4294967296 = (o : Int)) := hide (by omega)
      replace ho := hide ho
      replace ho3 := hide ho3
      have s1 : IntKind.i64.wrap ((k : Int) + 1) = (k : Int) + 1 := by rw [IntKind.wrap_i64]; omega
      go_wp2_with fail
      go_region_with (first | (go_at_call 65; refine (limb_any _ Bd _ n c xs ?_ (k + 1) ?_).mono ?_; (focus (repeat (first | exact HR.out | apply Rd.drw))); (focus omega); rintro e w' ⟨rfl, rfl⟩))
      all_goals
        clear s1
        go_wp2
        go_roundw
        case rel => exact ⟨k + 1, _, by omega, by go_num, by simpa using hos, hst.out o ho3.out, (hO.out.put (x := o) ho2 hw.out).drw, Below.drw (hBl.out.setCell (Nat.le_refl _) _)⟩
        case measure => simp [intOf]; omega
    · have hkm : k = n := by omega
      subst hkm
      have hR := hO.rd0 (c := k) (by omega) (by omega) hO.lt
      rw [hos] at hR
      have hv : Hid (val os = val xs / 2) := hide (by
        have e1 : vl os k = val os := vl_ge (by omega)
        have e2 : vl xs k = val xs := vl_ge (by rw [H.out.len]; exact Nat.le_refl _)
        have e3 : lm xs k = 0 := lm_ge (by rw [H.out.len]; exact Nat.le_refl _)
        rw [e1, e2, e3] at hval
        omega)
      clear hval
      replace hR := hide hR
      replace hO := hide hO
      replace hBl := hide hBl
      go_wp2_with fail
      refine (rnorm_any _ _ _ _ _ _ hR.out (Nat.le_refl _)).mono ?_
      rw [hv.out]
      rintro e w2 ⟨rfl, hO2, hb2, hlm⟩
      replace hO2 := hide hO2
      replace hb2 := hide hb2
      go_wp2
      go_ret
      exact RetOwn.fresh ⟨rfl, hO2.out, hb2.out, hlm⟩ hBl.out

end Go.Proofs.Ytjbbapibpcgnhaa
