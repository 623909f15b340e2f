/-
  The reference's Add, Sub, Mul.
-/
import Derived.Test.YtjbbapibpcgnhaaRef1
import Derived.Test.YtjbbapibpcgnhaaAdd
import Derived.Test.YtjbbapibpcgnhaaSub
import Derived.Test.YtjbbapibpcgnhaaMul
import Derived.Test.YtjbbapibpcgnhaaKnuthMath
namespace Go.Proofs.Ytjbbapibpcgnhaa
open Go.RowKit

theorem RetOwn.natFrom {w w1 : World} {m : Nat} {e : Ending} {w' : World} (h : RetOwn w1 m e w') (hb : Below w.heap.size w w1) : RetNat w m e w' :=
  ⟨_, _, h.1, h.2.1.rd0 (Nat.le_refl _) h.2.2.2 h.2.1.lt, hb.trans (h.2.2.1.mono hb.size)⟩

theorem radd_step {xs ys os : List Nat} {k cy : Nat} (hk : k < os.length) (hi : vl os k + pw k * cy = vl xs k + vl ys k) (s : Nat) (hs : s = lm xs k + lm ys k + cy) :
    vl (os.set k (s % 4294967296)) (k + 1) + pw (k + 1) * (s / 4294967296) = vl xs (k + 1) + vl ys (k + 1) := by
  have := add_step hk hi
  rw [show s = cy + lm xs k + lm ys k by omega]
  exact this

set_option maxHeartbeats 1000000 in
theorem radd_any (w : World) (Bd : Nat) (A A' : Option Addr) (n c n' c' : Nat) (xs ys : List Nat) (hx : Rd w Bd A n c xs) (hy : Rd w Bd A' n' c' ys) (hB : Bd ≤ w.heap.size)
    (hn : n + 1 ≤ 70368744177664) (hn' : n' + 1 ≤ 70368744177664) : Calls Try.prog 52 #[.slice A n c, .slice A' n' c'] w (RetNat w (val xs + val ys)) := by
  obtain ⟨m, hm1, hm2⟩ : ∃ m, (n ≤ m ∧ n' ≤ m) ∧ max (n : Int) (n' : Int) = (m : Int) ∧ m + 1 ≤ 70368744177664 := ⟨max n n', ⟨by omega, by omega⟩, by omega, by omega⟩
  obtain ⟨hmax, hmb⟩ := hm2
  have hvx := hide (vl_ge (xs := xs) (k := m + 1) (by rw [hx.len]; omega))
  have hvy := hide (vl_ge (xs := ys) (k := m + 1) (by rw [hy.len]; omega))
  have hvs : Hid (val xs < pw m) := hide (by have h1 := val_lt hx.limbs; have h2 := pw_mono (show xs.length ≤ m by have := hx.len; omega); omega)
  have hvt : Hid (val ys < pw m) := hide (by have h1 := val_lt hy.limbs; have h2 := pw_mono (show ys.length ≤ m by have := hy.len; omega); omega)
  have HX := hide hx
  have HY := hide hy
  clear hx hy hm1
  go_enter Try.func52, Try.ntmps52
  go_wp2_with (at_make; refine wpList_make_nat _ rfl _ _ rfl _ _ _ _ (m + 1) rfl rfl (by omega) (by omega) (by omega) ?_; intro w1 hown hb hg)
  go_loopw [6, 7] (fun cy i wr => ∃ k q : Nat, k ≤ m + 1 ∧ q ≤ 1 ∧ i = .int .i64 k ∧ cy = .int .u64 q ∧ AddRel w xs ys m k q wr) (fun _ i _ => m + 1 - (intOf i).toNat)
  case atStart => exact ⟨0, 0, by omega, by omega, rfl, rfl, List.replicate (m + 1) 0, List.length_replicate, rfl, hown, hb⟩
  case round =>
    obtain ⟨k, q, hk, hq, rfl, rfl, os, hos, hval, hO, hBl⟩ := hrel
    by_cases hkl : k < m + 1
    · have hko : k < os.length := by omega
      have hco := hO.cell hko
      have hfo := hO.frozen k
      replace hO := hide hO
      have HXr := hide (HX.out.below (hBl.mono hB))
      have HYr := hide (HY.out.below (hBl.mono hB))
      replace hBl := hide hBl
      have h1 := HX.out.limbs k
      have h2 := HY.out.limbs k
      have hst := hide (radd_step (xs := xs) (ys := ys) hko hval _ rfl)
      clear hval
      go_wp2_with (first
        | (go_at_call 65; ((with_reducible refine (limb_any _ Bd A n c xs HXr.out k (by omega)).mono ?_); rintro e w' ⟨rfl, rfl⟩))
        | (go_at_call 65; ((with_reducible refine (limb_any _ Bd A' n' c' ys HYr.out k (by omega)).mono ?_); rintro e w' ⟨rfl, rfl⟩)))
      go_roundw
      case rel => exact ⟨k + 1, (lm xs k + lm ys k + q) / 4294967296, by omega, by omega, by go_num, by go_num, _, by simpa using hos, hst.out, hO.out.put (by omega) (by omega), hBl.out.setCell (Nat.le_refl _) _⟩
      case measure => simp [intOf]; omega
    · have hkm : k = m + 1 := by omega
      subst hkm
      have hR := hO.rd0 (c := m + 1) (by omega) (by omega) hO.lt
      rw [hos] at hR
      have hv : Hid (val os = val xs + val ys) := hide (by
        have e : vl os (m + 1) = val os := vl_ge (by omega)
        have e2 := pw_succ m
        rw [hvx.out, hvy.out, e] at hval
        have h1 := hvs.out
        have h2 := hvt.out
        obtain rfl | rfl : q = 0 ∨ q = 1 := by omega
        all_goals omega)
      clear hval
      replace hR := hide hR
      replace hO := hide hO
      replace hBl := hide hBl
      go_wp2_with fail
      refine (rnorm_any _ _ _ _ _ _ hR.out (Nat.le_refl _)).mono ?_
      rw [hv.out]
      rintro e w2 ⟨rfl, hO2, hb2, hlm⟩
      replace hO2 := hide hO2
      replace hb2 := hide hb2
      go_wp2
      go_ret
      exact RetOwn.natFrom ⟨rfl, hO2.out, hb2.out, hlm⟩ hBl.out

theorem grown_drewN {a w : World} {row : Option Nat} (h : a.grownBy w row) (k : Nat) : a.grownBy (w.drewN k) row := ⟨h.os, h.tape, h.output, h.size, h.block⟩

theorem rtimes_step {os os' ys : List Nat} {off f k q : Nat} (hl : os'.length = os.length) (hk : off + k < os.length) (h0 : ∀ j, j < off ∨ off + k ≤ j → lm os' j = lm os j)
    (h : vl (os'.drop off) k + pw k * q = vl (os.drop off) k + vl ys k * f) (s : Nat) (hs : s = lm os' (off + k) + f * lm ys k + q) :
    vl ((os'.set (off + k) (s % 4294967296)).drop off) (k + 1) + pw (k + 1) * (s / 4294967296) = vl (os.drop off) (k + 1) + vl ys (k + 1) * f :=
  times_step hl hk h0 h s (by rw [hs, Nat.mul_comm f]; omega)

set_option maxHeartbeats 2000000 in
theorem rmul_any (w : World) (Bd : Nat) (A A' : Option Addr) (n c n' c' : Nat) (xs ys : List Nat) (hx : Rd w Bd A n c xs) (hy : Rd w Bd A' n' c' ys) (hB : Bd ≤ w.heap.size)
    (hn : n + n' ≤ 70368744177664) :
    Calls Try.prog 55 #[.slice A n c, .slice A' n' c'] w (RetNat w (val xs * val ys)) := by
  have HX := hide hx
  have HY := hide hy
  have hcap := hx.cap
  have hcap' := hy.cap
  clear hx hy
  go_enter Try.func55, Try.ntmps55
  go_wp2_with (at_make; refine wpList_make_nat _ rfl _ _ rfl _ _ _ _ (n + n') rfl rfl (by omega) (by omega) (by omega) ?_; intro w1 hown hb hg)
  go_loopw [6] (fun i wr => ∃ k : Nat, k ≤ n ∧ i = .int .i64 k ∧ MulRel w xs ys n n' k wr) (fun i _ => n - (intOf i).toNat)
  case atStart => exact ⟨0, by omega, rfl, List.replicate (n + n') 0, List.length_replicate, by rw [vl_zeros]; simp [vl], hown, hb⟩
  case round =>
    obtain ⟨i, hi, rfl, os, hos, hval, hO, hBl⟩ := hrel
    by_cases hil : i < n
    · obtain ⟨wo, rfl⟩ : ∃ wo : World, wo = wr := ⟨_, rfl⟩
      replace hO := hide hO
      replace hBl := hide hBl
      replace hval := hide hval
      have h1 := HX.out.limbs i
      go_wp2
      go_loopw [7, 8] (fun cy b wr => ∃ k q : Nat, k ≤ n' ∧ q < 4294967296 ∧ b = .int .i64 k ∧ cy = .int .u64 q ∧ TimesRel wo w.heap.size i os ys (lm xs i) k q wr) (fun _ b _ => n' - (intOf b).toNat)
      case atStart => exact ⟨0, 0, by omega, by omega, rfl, rfl, os, rfl, fun _ _ => rfl, by simp [vl], hO.out, grown_refl _ _⟩
      case round =>
        obtain ⟨k, q, hk, hq, rfl, rfl, os', hos', hkeep, hv, hOr, hgr⟩ := hrel
        have hBr := hide (hBl.out.grown hgr (Nat.le_of_lt hO.out.lt) (by simp))
        by_cases hkl : k < n'
        · have hco := hOr.cell (j := i + k) (by omega)
          have hlo := hOr.limbs (i + k)
          obtain ⟨ad, rfl, hadb, hca⟩ := (HX.out.below (hBr.out.mono hB)).at_ hil
          obtain ⟨ad', rfl, hadb', hca'⟩ := (HY.out.below (hBr.out.mono hB)).at_ hkl
          have hly := HY.out.limbs k
          have hp := prod_le h1 hly
          have hp0 : 0 ≤ (lm xs i : Int) * (lm ys k : Int) := Int.mul_nonneg (by omega) (by omega)
          have hst := hide (rtimes_step hos' (by omega) hkeep hv _ rfl)
          have hkeep' := hide (fun x => times_keep (x := x) hkeep)
          replace hOr := hide hOr
          replace hgr := hide hgr
          clear hv hkeep
          have s1 : IntKind.i64.wrap ((i : Int) + (k : Int)) = ((i + k : Nat) : Int) := by rw [IntKind.wrap_i64]; omega
          have b1 : i + k < n + n' := by omega
          go_wp2_with fail
          go_quiet (fail)
          have hO2 := hide (hOr.out.drewN nq)
          have hgr2 := hide (grown_drewN hgr.out nq)
          have hfo := hO2.out.frozen (i + k)
          have hco2 := hO2.out.cell (j := i + k) (by omega)
          clear hco hca hca' hOr hgr hBr
          generalize wr.drewN nq = wd at *
          go_wp2
          go_roundw
          case rel =>
            have e : ((lm os' (i + k) : Int) + (lm xs i : Int) * (lm ys k : Int) + (q : Int)) = ((lm os' (i + k) + lm xs i * lm ys k + q : Nat) : Int) := by simp
            rw [e]
            exact ⟨k + 1, (lm os' (i + k) + lm xs i * lm ys k + q) / 4294967296, by omega, by omega, by go_num, by go_num, _, by simpa using hos', hkeep'.out _, hst.out, hO2.out.put (by omega) (by omega), grown_setCell hgr2.out _ _⟩
          case measure => simp [intOf]; omega
        · have hkm : k = n' := by omega
          subst hkm
          have hfo := hOr.frozen (i + k)
          have hco := hOr.cell (j := i + k) (by omega)
          have hst := hide (mul_step HY.out.len hos' (by omega) hkeep hv hval.out)
          replace hOr := hide hOr
          clear hkeep hv hgr
          go_wp2
          go_roundw
          case rel => exact ⟨i + 1, by omega, by go_num, _, by simpa [hos'] using hos, hst.out, hOr.out.put hq (by omega), hBr.out.setCell (Nat.le_refl _) _⟩
          case measure => simp [intOf]; omega
    · have him : i = n := by omega
      subst him
      have hR := hO.rd0 (c := i + n') (by omega) (by omega) hO.lt
      rw [hos] at hR
      have hv : Hid (val os = val xs * val ys) := hide (by
        unfold val
        unfold val at hval
        rw [hos, hval, HX.out.len])
      clear hval
      replace hR := hide hR
      replace hO := hide hO
      replace hBl := hide hBl
      go_wp2_with fail
      refine (rnorm_any _ _ _ _ _ _ hR.out (Nat.le_refl _)).mono ?_
      rw [hv.out]
      rintro e w2 ⟨rfl, hO2, hb2, hlm⟩
      replace hO2 := hide hO2
      replace hb2 := hide hb2
      go_wp2
      go_ret
      exact RetOwn.natFrom ⟨rfl, hO2.out, hb2.out, hlm⟩ hBl.out

theorem vl_small {ys : List Nat} {n : Nat} (h : val ys < pw n) : vl ys n = val ys := by
  by_cases hl : ys.length ≤ n
  · exact vl_ge hl
  · have e := val_split ys (k := n) (by omega)
    rcases Nat.eq_zero_or_pos (val (ys.drop n)) with h0 | h0
    · rw [h0] at e; omega
    · have := Nat.mul_le_mul_left (pw n) h0
      omega
theorem rsub_end {xs ys os : List Nat} {n b : Nat} (hos : os.length = n) (hxs : xs.length = n) (hO : Limbs os) (hX : Limbs xs) (hb : b ≤ 1) (hle : val ys ≤ val xs) (hval : vl os n + vl ys n = vl xs n + pw n * b) : val os = val xs - val ys := by
  have h1 := val_lt hX
  rw [hxs] at h1
  have h2 := val_lt hO
  rw [hos] at h2
  rw [vl_small (by omega : val ys < pw n), vl_ge (by omega : xs.length ≤ n), vl_ge (by omega : os.length ≤ n)] at hval
  obtain rfl | rfl : b = 0 ∨ b = 1 := by omega
  all_goals omega

set_option maxHeartbeats 1000000 in
theorem rsub_less (w : World) (Bd : Nat) (A A' : Option Addr) (n c n' c' : Nat) (xs ys : List Nat) (hx : Rd w Bd A n c xs) (hy : Rd w Bd A' n' c' ys) (hlt : val xs < val ys) :
    Calls Try.prog 53 #[.slice A n c, .slice A' n' c'] w (RetNat2 w 0 false) := by
  have hC := hide (cmpN_lt hlt)
  have HX := hide hx
  have HY := hide hy
  clear hx hy hlt
  go_enter Try.func53, Try.ntmps53
  go_wp2_with (go_at_call 49; ((with_reducible refine (rcmp_any _ Bd A A' n c n' c' xs ys HX.out HY.out).mono ?_); rw [hC.out]; rintro e w' ⟨rfl, rfl⟩))
  go_ret2
  exact ⟨none, 0, by rw [dig_zero]; rfl, by rw [dig_zero]; exact Rd.empty _ _ _ (by omega), Below.refl _ _⟩

set_option maxHeartbeats 1000000 in
theorem rsub_more (w : World) (Bd : Nat) (A A' : Option Addr) (n c n' c' : Nat) (xs ys : List Nat) (hx : Rd w Bd A n c xs) (hy : Rd w Bd A' n' c' ys) (hB : Bd ≤ w.heap.size) (hle : val ys ≤ val xs) :
    Calls Try.prog 53 #[.slice A n c, .slice A' n' c'] w (RetNat2 w (val xs - val ys) true) := by
  obtain ⟨z, hz⟩ : ∃ z : Int, z = cmpN (val xs) (val ys) := ⟨_, rfl⟩
  have hz0 : 0 ≤ z := by rw [hz]; exact cmpN_ge hle
  have hC := hide hz.symm
  have hle := hide hle
  clear hz
  have hbig := hx.big
  have hcap := hx.cap
  have HX := hide hx
  have HY := hide hy
  clear hx hy
  go_enter Try.func53, Try.ntmps53
  go_wp2_with (first
    | (go_at_call 49; ((with_reducible refine (rcmp_any _ Bd A A' n c n' c' xs ys HX.out HY.out).mono ?_); rw [hC.out]; rintro e w' ⟨rfl, rfl⟩))
    | (at_make; refine wpList_make_nat _ rfl _ _ rfl _ _ _ _ n rfl rfl (by omega) (by omega) (by omega) ?_; intro w1 hown hb hg))
  go_loopw [7, 8] (fun bw i wr => ∃ k q : Nat, k ≤ n ∧ q ≤ 1 ∧ i = .int .i64 k ∧ bw = .int .u64 q ∧ ∃ os, os.length = n ∧ vl os k + vl ys k = vl xs k + pw k * q ∧ Own wr w.heap.size os ∧ Below w.heap.size w wr) (fun _ i _ => n - (intOf i).toNat)
  case atStart => exact ⟨0, 0, by omega, by omega, rfl, rfl, List.replicate n 0, List.length_replicate, rfl, hown, hb⟩
  case round =>
    obtain ⟨k, q, hk, hq, rfl, rfl, os, hos, hval, hO, hBl⟩ := hrel
    by_cases hkl : k < n
    · have hko : k < os.length := by omega
      have hco := hO.cell hko
      have hfo := hO.frozen k
      have HXr := hide (HX.out.below (hBl.mono hB))
      have HYr := hide (HY.out.below (hBl.mono hB))
      replace hO := hide hO
      replace hBl := hide hBl
      have h1 := HX.out.limbs k
      have h2 := HY.out.limbs k
      have hst := hide (sub_step HX.out.limbs HY.out.limbs hq hko hval)
      clear hval
      by_cases hbo : lm xs k < lm ys k + q
      · have hB1 : Hid (subB (lm xs k) (lm ys k) q = 1) := hide (by unfold subB; rw [if_pos hbo])
        go_wp2_with (first
          | (go_at_call 65; ((with_reducible refine (limb_any _ Bd A n c xs HXr.out k (by omega)).mono ?_); rintro e w' ⟨rfl, rfl⟩))
          | (go_at_call 65; ((with_reducible refine (limb_any _ Bd A' n' c' ys HYr.out k (by omega)).mono ?_); rintro e w' ⟨rfl, rfl⟩)))
        go_roundw
        case rel => exact ⟨k + 1, 1, by omega, by omega, by go_num, by go_num, _, by simpa using hos, by have := hst.out; rwa [hB1.out] at this, hO.out.put (subD_lt _ _ _) (by unfold subD; omega), hBl.out.setCell (Nat.le_refl _) _⟩
        case measure => simp [intOf]; omega
      · have hB1 : Hid (subB (lm xs k) (lm ys k) q = 0) := hide (by unfold subB; rw [if_neg hbo])
        go_wp2_with (first
          | (go_at_call 65; ((with_reducible refine (limb_any _ Bd A n c xs HXr.out k (by omega)).mono ?_); rintro e w' ⟨rfl, rfl⟩))
          | (go_at_call 65; ((with_reducible refine (limb_any _ Bd A' n' c' ys HYr.out k (by omega)).mono ?_); rintro e w' ⟨rfl, rfl⟩)))
        go_roundw
        case rel => exact ⟨k + 1, 0, by omega, by omega, by go_num, by go_num, _, by simpa using hos, by have := hst.out; rwa [hB1.out] at this, hO.out.put (subD_lt _ _ _) (by unfold subD; omega), hBl.out.setCell (Nat.le_refl _) _⟩
        case measure => simp [intOf]; omega
    · have hkm : k = n := by omega
      subst hkm
      have hR := hO.rd0 (c := k) (by omega) (by omega) hO.lt
      rw [hos] at hR
      have hv : Hid (val os = val xs - val ys) := hide (rsub_end hos HX.out.len hO.limbs HX.out.limbs hq hle.out hval)
      clear hval
      replace hR := hide hR
      replace hO := hide hO
      replace hBl := hide hBl
      go_wp2_with fail
      refine (rnorm_any _ _ _ _ _ _ hR.out (Nat.le_refl _)).mono ?_
      rw [hv.out]
      rintro e w2 ⟨rfl, hO2, hb2, hlm⟩
      replace hO2 := hide hO2
      replace hb2 := hide hb2
      go_wp2
      go_ret2
      exact ⟨_, _, rfl, hO2.out.rd0 (Nat.le_refl _) hlm hO2.out.lt, hBl.out.trans (hb2.out.mono hBl.out.size)⟩

end Go.Proofs.Ytjbbapibpcgnhaa
