/-
  RefHalf, RefShift.
-/
import Derived.Test.YtdihgmbldnekhaaRefSum
import Derived.Test.YtdihgmbldnekhaaNatKnuth
namespace Go.Proofs.Ytdihgmbldnekhaa
section
open Go.RowKit

theorem Rd.drw {w : World} {Bd : Nat} {A : Option Addr} {n c : Nat} {xs : List Nat} (h : Rd w Bd A n c xs) : Rd w.drew Bd A n c xs := ⟨h.len, h.limbs, h.cap, h.big, h.cbig, h.cells⟩
theorem Own.drw {w : World} {g : Nat} {os : List Nat} (h : Own w g os) : Own w.drew g os := ⟨h.limbs, h.blk⟩
theorem Below.drw {B : Nat} {w X : World} (h : Below B w X) : Below B w X.drew := ⟨h.os, h.tape, h.output, h.size, h.block⟩
/-- a result in a block of the call's own -/
def RetFresh (w : World) (m : Nat) (e : Ending) (w' : World) : Prop :=
  ∃ g, w.heap.size ≤ g ∧ e = .returned (.slice (some ⟨g, 0, none⟩) (dig m).length (dig m).length) ∧ Own w' g (dig m) ∧ Below w.heap.size w w' ∧ (dig m).length ≤ 70368744177664
theorem RetOwn.fresh {w w1 : World} {m : Nat} {e : Ending} {w' : World} (h : RetOwn w1 m e w') (hb : Below w.heap.size w w1) : RetFresh w m e w' :=
  ⟨_, hb.size, h.1, h.2.1, hb.trans (h.2.2.1.mono hb.size), h.2.2.2⟩

theorem half_step {xs os : List Nat} {k : Nat} (hk : k < os.length) (h : 2 * vl os k + lm xs 0 % 2 = vl xs k + pw k * (lm xs k % 2)) (o : Nat) (ho : 2 * o + lm xs k % 2 = lm xs k + 4294967296 * (lm xs (k + 1) % 2)) :
    2 * vl (os.set k o) (k + 1) + lm xs 0 % 2 = vl xs (k + 1) + pw (k + 1) * (lm xs (k + 1) % 2) := by
  rw [vl_succ, vl_set _ (Nat.le_refl _), lm_set_eq _ hk, vl_succ, pw_succ]
  have : pw k * (2 * o + lm xs k % 2) = pw k * (lm xs k + 4294967296 * (lm xs (k + 1) % 2)) := by rw [ho]
  grind

set_option maxHeartbeats 1000000 in
theorem rhalf_any (w : World) (Bd : Nat) (A : Option Addr) (n c : Nat) (xs : List Nat) (h : Rd w Bd A n c xs) (hB : Bd ≤ w.heap.size) :
    Calls Try.prog 138 #[.slice A n c] w (RetFresh w (val xs / 2)) := by
  have hbig := h.big
  have hcap := h.cap
  have H := hide h
  clear h
  go_enter Try.func138, Try.ntmps138
  go_wp2_with (at_make; refine wpList_make_nat _ rfl _ _ rfl _ _ _ _ n rfl rfl (by omega) (by omega) (by omega) ?_; intro w1 hown hb hg)
  go_loopw [4] (fun i wr => ∃ (k : Nat) (os : List Nat), k ≤ n ∧ i = .int .i64 (k : Int) ∧ os.length = n ∧ 2 * vl os k + lm xs 0 % 2 = vl xs k + pw k * (lm xs k % 2) ∧ Own wr w.heap.size os ∧ Below w.heap.size w wr) (fun i _ => n - (intOf i).toNat)
  case atStart => exact ⟨0, List.replicate n 0, by omega, rfl, List.length_replicate, by simp [vl, pw], hown, hb⟩
  case round =>
    obtain ⟨k, os, hk, rfl, hos, hval, hO, hBl⟩ := hrel
    by_cases hkn : k < n
    · have hco := hO.cell (j := k) (by omega)
      have hfo := hO.frozen k
      obtain ⟨ad, rfl, hadb, hca⟩ := (H.out.below (hBl.mono hB)).at_ hkn
      have HR := hide (H.out.below (hBl.mono hB))
      have l1 := H.out.limbs k
      have l2 := H.out.limbs (k + 1)
      have hst := hide (fun o => half_step (xs := xs) (os := os) (k := k) (by omega) hval o)
      replace hO := hide hO
      replace hBl := hide hBl
      clear hval
      have hne : ad.block ≠ w.heap.size := by omega
      have hne2 : w.heap.size ≠ ad.block := by omega
      obtain ⟨o, ho⟩ : ∃ o, o = ((lm xs (k + 1) * 4294967296 + lm xs k) / 2) % 4294967296 := ⟨_, rfl⟩
      have ho2 : o < 4294967296 := by omega
      have ho3 : 2 * o + lm xs k % 2 = lm xs k + 4294967296 * (lm xs (k + 1) % 2) := by omega
      have hw : Hid (((lm xs (k + 1) : Int) * 4294967296 + (lm xs k : Int)) / 2 % 4294967296 = (o : Int)) := hide (by omega)
      replace ho := hide ho
      replace ho3 := hide ho3
      have s1 : IntKind.i64.wrap ((k : Int) + 1) = (k : Int) + 1 := by rw [IntKind.wrap_i64]; omega
      go_wp2_with fail
      go_region_with (first | (go_at_call 134; refine (limb_any _ Bd _ n c xs ?_ (k + 1) ?_).mono ?_; (focus (repeat (first | exact HR.out | apply Rd.drw))); (focus omega); rintro e w' ⟨rfl, rfl⟩))
      all_goals
        clear s1
        go_wp2
        go_roundw
        case rel => exact ⟨k + 1, _, by omega, by go_num, by simpa using hos, hst.out o ho3.out, (hO.out.put (x := o) ho2 hw.out).drw, Below.drw (hBl.out.setCell (Nat.le_refl _) _)⟩
        case measure => simp [intOf]; omega
    · have hkm : k = n := by omega
      subst hkm
      have hR := hO.rd0 (c := k) (by omega) (by omega) hO.lt
      rw [hos] at hR
      have hv : Hid (val os = val xs / 2) := hide (by
        have e1 : vl os k = val os := vl_ge (by omega)
        have e2 : vl xs k = val xs := vl_ge (by rw [H.out.len]; exact Nat.le_refl _)
        have e3 : lm xs k = 0 := lm_ge (by rw [H.out.len]; exact Nat.le_refl _)
        rw [e1, e2, e3] at hval
        omega)
      clear hval
      replace hR := hide hR
      replace hO := hide hO
      replace hBl := hide hBl
      go_wp2_with fail
      refine (rnorm_any _ _ _ _ _ _ hR.out (Nat.le_refl _)).mono ?_
      rw [hv.out]
      rintro e w2 ⟨rfl, hO2, hb2, hlm⟩
      replace hO2 := hide hO2
      replace hb2 := hide hb2
      go_wp2
      go_ret
      exact RetOwn.fresh ⟨rfl, hO2.out, hb2.out, hlm⟩ hBl.out
end

section
open Go.RowKit

theorem pw_pow (sh r : Nat) : pw sh * 2 ^ r = 2 ^ (32 * sh + r) := by
  induction sh with
  | zero => simp [pw]
  | succ sh ih =>
    rw [pw_succ, show 32 * (sh + 1) + r = 32 + (32 * sh + r) by omega, Nat.pow_add, ← ih, Nat.mul_assoc]

theorem lm_rep (n j : Nat) : lm (List.replicate n 0) j = 0 := by
  unfold lm
  rw [List.getD_eq_getElem?_getD, List.getElem?_replicate]
  split <;> rfl
theorem shl_val {l r : Nat} (hr : 2 ^ r ≤ 2147483648) (hl : l < 4294967296) : IntKind.u64.wrap ((l : Int) * 2 ^ r) = ((l * 2 ^ r : Nat) : Int) := by
  have h1 : l * 2 ^ r ≤ 4294967295 * 2147483648 := Nat.mul_le_mul (by omega) hr
  have e1 : ((l : Int) * 2 ^ r) = ((l * 2 ^ r : Nat) : Int) := by simp
  rw [e1]
  generalize l * 2 ^ r = t at *
  simp only [IntKind.wrap, IntKind.bits, IntKind.signed]
  simp
  omega
theorem or_top {t l r : Nat} (hr : r < 32) (ht : t < 2 ^ r) : t ||| (l * 2 ^ r % 4294967296) = t + l * 2 ^ r % 4294967296 ∧ t + l * 2 ^ r % 4294967296 < 4294967296 := by
  have e : (4294967296 : Nat) = 2 ^ (32 - r) * 2 ^ r := by rw [← Nat.pow_add, show 32 - r + r = 32 by omega]
  have h0 : l * 2 ^ r % 4294967296 % 2 ^ r = 0 := by rw [e, Nat.mul_mod_mul_right]; exact Nat.mul_mod_left _ _
  have h1 : t ||| (l * 2 ^ r % 4294967296) = t + l * 2 ^ r % 4294967296 := by rw [Nat.or_comm, nat_join r _ t h0 ht, Nat.add_comm]
  refine ⟨h1, ?_⟩
  rw [← h1]
  have ht2 : 2 ^ r ≤ 2 ^ 32 := Nat.pow_le_pow_right (by omega) (by omega)
  exact Nat.or_lt_two_pow (n := 32) (by omega) (by omega)

theorem rshift_step {xs os : List Nat} {i sh r P : Nat} (hP : pw sh * 2 ^ r = P) (hl : i + sh + 1 < os.length) (h : vl os (i + sh + 1) = vl xs i * P) (u : Nat) (hu : u = lm os (i + sh) + lm xs i * 2 ^ r % 4294967296) :
    vl ((os.set (i + sh) u).set (i + sh + 1) (lm xs i * 2 ^ r / 4294967296)) (i + 1 + sh + 1) = vl xs (i + 1) * P := by
  rw [show i + 1 + sh + 1 = (i + sh + 1) + 1 by omega, vl_succ, vl_set _ (Nat.le_refl _), lm_set_eq _ (by rw [List.length_set]; omega), vl_succ, vl_set _ (Nat.le_refl _), lm_set_eq _ (by omega), vl_succ, Nat.add_mul, ← h, vl_succ, hu]
  have e := step_low (vl os (i + sh) + pw (i + sh) * lm os (i + sh)) (pw (i + sh)) (lm xs i * 2 ^ r)
  rw [← pw_succ] at e
  have e2 : pw (i + sh) * (lm xs i * 2 ^ r) = pw i * lm xs i * P := by rw [← hP, pw_add]; grind
  rw [e2] at e
  rw [← e, Nat.mul_add]
  omega

set_option maxHeartbeats 1000000 in
theorem rshift_any (w : World) (Bd : Nat) (A : Option Addr) (n c : Nat) (xs : List Nat) (h : Rd w Bd A n c xs) (hB : Bd ≤ w.heap.size) (e : Nat) (he : n + e / 32 + 1 ≤ 70368744177664) :
    Calls Try.prog 136 #[.slice A n c, .int .i64 (e : Int)] w (RetFresh w (val xs * 2 ^ e)) := by
  have H := hide h
  clear h
  obtain ⟨sh, hsh⟩ : ∃ sh, sh = e / 32 := ⟨_, rfl⟩
  obtain ⟨r, hr⟩ : ∃ r, r = e % 32 := ⟨_, rfl⟩
  have hr32 : r < 32 := by omega
  have hP : Hid (pw sh * 2 ^ r = 2 ^ e) := hide (by rw [pw_pow, hsh, hr]; congr 1; omega)
  have hP31 : Hid (2 ^ r ≤ 2147483648) := hide (by
    have : 2 ^ r ≤ 2 ^ 31 := Nat.pow_le_pow_right (by omega) (by omega)
    omega)
  rw [← hsh] at he
  have hd : (e : Int) / 32 = (sh : Int) := by omega
  have hm : (e : Int) % 32 = (r : Int) := by omega
  have heb : e ≤ 2251799813685248 := by omega
  have hn := H.out.big
  clear hsh hr
  go_enter Try.func136, Try.ntmps136
  go_wp2_with (at_make; refine wpList_make_nat _ rfl _ _ rfl _ _ _ _ (n + sh + 1) rfl rfl (by omega) (by omega) (by omega) ?_; intro w1 hown hb hg)
  go_loopw [6] (fun i wr => ∃ (k : Nat) (os : List Nat), k ≤ n ∧ i = .int .i64 (k : Int) ∧ os.length = n + sh + 1 ∧ vl os (k + sh + 1) = vl xs k * 2 ^ e ∧ Hid (lm os (k + sh) < 2 ^ r) ∧ Own wr w.heap.size os ∧ Below w.heap.size w wr) (fun i _ => n - (intOf i).toNat)
  case atStart => exact ⟨0, List.replicate (n + sh + 1) 0, by omega, rfl, List.length_replicate, by rw [vl_zeros]; simp [vl], hide (by rw [lm_rep]; exact Nat.two_pow_pos r), hown, hb⟩
  case round =>
    obtain ⟨k, os, hk, rfl, hos, hval, ht, hO, hBl⟩ := hrel
    by_cases hkn : k < n
    · obtain ⟨t, htt⟩ : ∃ t, t = lm os (k + sh) := ⟨_, rfl⟩
      have hco := hO.cell (j := k + sh) (by omega)
      rw [← htt] at hco
      have hco2 := hO.cell (j := k + sh + 1) (by omega)
      have hfo := hO.frozen (k + sh)
      have hfo2 := hO.frozen (k + sh + 1)
      obtain ⟨ad, rfl, hadb, hca⟩ := (H.out.below (hBl.mono hB)).at_ hkn
      have l1 := H.out.limbs k
      obtain ⟨ho1, ho2⟩ := or_top (l := lm xs k) hr32 (show t < 2 ^ r by rw [htt]; exact ht.out)
      have hsv := shl_val hP31.out l1
      have hst := hide (rshift_step hP.out (by omega) hval (t + lm xs k * 2 ^ r % 4294967296) (by rw [htt]))
      have hhi := shl_small (q := 0) hP31.out (Nat.two_pow_pos r) l1
      rw [Nat.zero_add] at hhi
      generalize lm xs k * 2 ^ r = X at *
      have hv1 : Hid (bits BinOp.or IntKind.u32 (t : Int) ((X : Int) % 4294967296) = ((t + X % 4294967296 : Nat) : Int)) := hide (by
        have ht2 : t < 4294967296 := by omega
        rw [show ((X : Int) % 4294967296) = ((X % 4294967296 : Nat) : Int) by omega, u32_or_nat _ _ ht2 (by omega), ho1])
      have hr31 := hP31.out
      have hhi2 : X / 4294967296 < 4294967296 := by omega
      have hhi3 := hide hhi
      have hos2 := hide hos
      have hrel0 : k + sh + 1 < os.length := by omega
      clear ho1 hhi hr31
      replace ho2 := hide ho2
      replace htt := hide htt
      replace hO := hide hO
      replace hBl := hide hBl
      clear hval
      go_wp2
      go_roundw
      case rel =>
        refine ⟨k + 1, _, by omega, by go_num, ?_, hst.out, ?_, (hO.out.put (x := t + X % 4294967296) ho2.out hv1.out).put (x := X / 4294967296) hhi2 (by omega), (hBl.out.setCell (Nat.le_refl _) _).setCell (Nat.le_refl _) _⟩
        · rw [List.length_set, List.length_set]; exact hos2.out
        · rw [show k + 1 + sh = k + sh + 1 by omega, lm_set_eq _ (by rw [List.length_set]; omega)]
          exact hhi3
      case measure => simp [intOf]; omega
    · have hkm : k = n := by omega
      subst hkm
      have hR := hO.rd0 (c := k + sh + 1) (by omega) (by omega) hO.lt
      rw [hos] at hR
      have hv : Hid (val os = val xs * 2 ^ e) := hide (by
        have e1 : vl os (k + sh + 1) = val os := vl_ge (by omega)
        have e2 : vl xs k = val xs := vl_ge (by rw [H.out.len]; exact Nat.le_refl _)
        rw [e1, e2] at hval
        exact hval)
      clear hval
      replace hR := hide hR
      replace hO := hide hO
      replace hBl := hide hBl
      go_wp2_with fail
      refine (rnorm_any _ _ _ _ _ _ hR.out (Nat.le_refl _)).mono ?_
      rw [hv.out]
      rintro e w2 ⟨rfl, hO2, hb2, hlm⟩
      replace hO2 := hide hO2
      replace hb2 := hide hb2
      go_wp2
      go_ret
      exact RetOwn.fresh ⟨rfl, hO2.out, hb2.out, hlm⟩ hBl.out
end
end Go.Proofs.Ytdihgmbldnekhaa
