/-
  estimate, takeOut.
-/
import Derived.Test.YtdihgmbldnekhaaNatKnuth
namespace Go.Proofs.Ytdihgmbldnekhaa
open Go.RowKit

theorem add_pos_ {a : Addr} {k : Nat} (h : k ≠ 0) : a.add k = ⟨a.block, a.off + k, none⟩ := by simp [Addr.add, h]
theorem min_cast (t : Nat) : min (t : Int) 4294967295 = ((min t 4294967295 : Nat) : Int) := by
  rcases Nat.le_total t 4294967295 with h | h
  · rw [Nat.min_eq_left h, Int.min_eq_left (by omega)]
  · rw [Nat.min_eq_right h, Int.min_eq_right (by omega)]; rfl
def RetEst (w : World) (q : Nat) (e : Ending) (w' : World) : Prop := ∃ c : Nat, e = .returned (.int .u32 (c : Int)) ∧ (c = q ∨ c = q + 1) ∧ c < 4294967296 ∧ ∃ k, w' = w.drewN k

set_option maxHeartbeats 2000000 in
theorem estimate_any (w : World) (Bd Bd' p cr cd : Nat) (Ar Ad : Option Addr) (rs ds : List Nat) (hr : Rd w Bd Ar (p + 3) cr rs) (hd : Rd w Bd' Ad (p + 2) cd ds) (hh : lm ds (p + 1) ≠ 0) (hR : vl rs (p + 3) < 4294967296 * vl ds (p + 2)) :
    Calls Try.prog 139 #[.slice Ar (p + 3) cr, .slice Ad (p + 2) cd] w (RetEst w (vl rs (p + 3) / vl ds (p + 2))) := by
  have hbig := hr.big
  have hcap := hr.cap
  have hcap' := hd.cap
  obtain ⟨ar, rfl, _, hcr⟩ := hr.cells (by omega)
  obtain ⟨ad, rfl, _, hcd⟩ := hd.cells (by omega)
  have e1 := hcr (p + 2) (by omega)
  have e2 := hcr (p + 1) (by omega)
  have e3 := hcr p (by omega)
  have e4 := hcd (p + 1) (by omega)
  rw [add_pos_ (by omega)] at e1 e2 e4
  have e5 := hcd p (by omega)
  have l1 := hr.limbs (p + 2)
  have l2 := hr.limbs (p + 1)
  have l3 := hr.limbs p
  have l4 := hd.limbs (p + 1)
  have l5 := hd.limbs p
  have hsr := hide (split3 rs p)
  have hsr' := hide (split3' rs p)
  have hsd := hide (split2 ds p)
  have hsd' := hide (split2' ds p)
  have hlr := hide (vl_lt hr.limbs p)
  have hlr' := hide (vl_lt hr.limbs (p + 1))
  have hld := hide (vl_lt hd.limbs p)
  have hor := or_hi2 (lm rs (p + 1)) (lm rs (p + 2)) l2 l1
  generalize lm rs (p + 2) = r0 at *
  generalize lm rs (p + 1) = r1 at *
  generalize lm rs p = r2 at *
  generalize lm ds (p + 1) = h at *
  generalize lm ds p = v2 at *
  generalize vl rs (p + 3) = R at *
  generalize vl ds (p + 2) = D at *
  have hD0 : 0 < D := by omega
  have hq0 : R / D ≤ 4294967295 := by
    have : R / D < 4294967296 := by rw [Nat.div_lt_iff_lt_mul hD0]; exact hR
    omega
  have hp1 : 0 < h := by omega
  have hne : ((h : Int) == 0) = false := by simp; omega
  clear hcr hcd hr hd
  go_enter Try.func139, Try.ntmps139
  have s1 : IntKind.i64.wrap ((p : Int) + 2 - 1) = (p : Int) + 1 := by rw [IntKind.wrap_i64]; omega
  have s2 : IntKind.i64.wrap ((p : Int) + 2 - 2) = (p : Int) := by rw [IntKind.wrap_i64]; omega
  have t1 : ((p : Int) + 1).toNat = p + 1 := by omega
  have t2 : ((p : Int) + 2).toNat = p + 2 := by omega
  have b1 : 0 ≤ (p : Int) + 1 := by omega
  have b2 : (p : Int) + 1 < (p : Int) + 2 := by omega
  have b3 : (p : Int) < (p : Int) + 2 := by omega
  have b4 : 0 ≤ (p : Int) + 2 := by omega
  have b5 : (p : Int) + 2 < (p : Int) + 3 := by omega
  have b6 : (p : Int) + 1 < (p : Int) + 3 := by omega
  go_wp2_with fail
  go_quiet (fail)
  generalize hW : w.drewN nq = W at *
  have f1 : W.cell? ⟨ar.block, ar.off + (p + 2), none⟩ = some (.int .u32 (r0 : Int)) := by rw [← hW]; exact e1
  have f2 : W.cell? ⟨ar.block, ar.off + (p + 1), none⟩ = some (.int .u32 (r1 : Int)) := by rw [← hW]; exact e2
  have f3 : W.cell? (ar.add p) = some (.int .u32 (r2 : Int)) := by rw [← hW]; exact e3
  have hWe := hide (show ∃ k, W = w.drewN k from ⟨_, hW.symm⟩)
  clear hW
  clear e1 e2 e3 e4 e5
  obtain ⟨top, htop⟩ : ∃ top, top = 4294967296 * r0 + r1 := ⟨_, rfl⟩
  obtain ⟨c0, hc0⟩ : ∃ c0, c0 = min (top / h) 4294967295 := ⟨_, rfl⟩
  have hq1 : R / D * h ≤ top := quo_high (P := pw (p + 1)) (top := top) (by rw [htop, hsr'.out, Nat.mul_comm 4294967296 r0]) hlr'.out hsd'.out (Nat.div_mul_le_self R D)
  have hq2 : R / D ≤ c0 := by
    rw [hc0]
    exact Nat.le_min.2 ⟨(Nat.le_div_iff_mul_le hp1).2 hq1, hq0⟩
  have hch : c0 * h ≤ top := by
    have h1 : c0 ≤ top / h := by rw [hc0]; exact Nat.min_le_left _ _
    exact Nat.le_trans (Nat.mul_le_mul_right h h1) (Nat.div_mul_le_self top h)
  have hc1 : c0 ≤ 4294967295 := by rw [hc0]; exact Nat.min_le_right _ _
  obtain ⟨m0, hm0⟩ : ∃ m0, m0 = c0 * h := ⟨_, rfl⟩
  have hmul : IntKind.u64.wrap ((c0 : Int) * (h : Int)) = (m0 : Int) := by
    have e : ((c0 : Int) * (h : Int)) = (m0 : Int) := by rw [hm0]; simp
    rw [e]
    simp only [IntKind.wrap, IntKind.bits, IntKind.signed]
    simp
    omega
  have hsub : IntKind.u64.wrap (4294967296 * (r0 : Int) + (r1 : Int) - (m0 : Int)) = ((top - m0 : Nat) : Int) := by
    simp only [IntKind.wrap, IntKind.bits, IntKind.signed]
    simp
    omega
  obtain ⟨l0, hl0⟩ : ∃ l0, l0 = top - m0 := ⟨_, rfl⟩
  rw [← hl0] at hsub
  have hmin : min ((4294967296 * (r0 : Int) + (r1 : Int)) / (h : Int)) 4294967295 = (c0 : Int) := by
    have e : (4294967296 * (r0 : Int) + (r1 : Int)) / (h : Int) = ((top / h : Nat) : Int) := by rw [htop]; simp
    rw [e, hc0]
    exact min_cast _
  have hinv := hide (show l0 + c0 * h = top by rw [← hm0]; omega)
  have hR3 := hide (show R = (top * 4294967296 + r2) * pw p + vl rs p by rw [hsr.out, htop, Nat.mul_comm 4294967296 r0])
  have hl64 : l0 < 18446744073709551616 := by omega
  replace hq2 := hide hq2
  replace htop := hide htop
  replace hl0 := hide hl0
  replace hm0 := hide hm0
  replace hc0 := hide hc0
  clear hq1 hch
  go_wp2_with fail
  go_quiet (fail)
  go_wp2_with fail
  generalize hV : W.drewN nq = V at *
  have f4 : V.cell? (ar.add p) = some (.int .u32 (r2 : Int)) := by rw [← hV]; exact f3
  have hVw : Hid (∃ k, V = w.drewN k) := hide (by
    obtain ⟨k, hk⟩ := hWe.out
    exact ⟨_, by rw [← hV, hk, World.drewN_drewN]⟩)
  clear f1 f2 f3 hV hmul hsub hmin hor hsr hsr' hsd' hlr'
  go_loop [9, 10] (fun u v => ∃ c l : Nat, c ≤ 4294967295 ∧ l < 18446744073709551616 ∧ u = .int .u64 (c : Int) ∧ v = .int .u64 (l : Int) ∧ Hid (l + c * h = top) ∧ Hid (R / D ≤ c)) (fun u _ => (intOf u).toNat)
  case atStart => exact ⟨c0, l0, hc1, hl64, rfl, rfl, hinv, hq2⟩
  case round =>
    obtain ⟨c, l, hc, hl, rfl, rfl, hin, hq⟩ := hrel
    have hp := prod_le (show c < 4294967296 by omega) l5
    have hp0 : 0 ≤ (c : Int) * (v2 : Int) := Int.mul_nonneg (by omega) (by omega)
    have hcv : ((c * v2 : Nat) : Int) = (c : Int) * (v2 : Int) := by simp
    by_cases hlt : l < 4294967296
    · have hor := or_hi2 r2 l l3 hlt
      by_cases hgt : 4294967296 * l + r2 < c * v2
      · obtain ⟨g1, g2, g3⟩ := est_step hR3.out hlr.out hsd.out hD0 hin.out hgt
        have hgi : 4294967296 * (l : Int) + (r2 : Int) < (c : Int) * (v2 : Int) := by omega
        replace g1 := hide g1
        replace g3 := hide g3
        replace hcv := hide hcv
        clear hgt
        go_wp2
        go_round
        case rel => exact ⟨c - 1, l + h, by omega, by omega, by go_num, by go_num, g3, g1⟩
        case measure => simp [intOf]; omega
      · have hgi : ¬ 4294967296 * (l : Int) + (r2 : Int) < (c : Int) * (v2 : Int) := by omega
        have hE := hide (est_exit hR3.out hsd.out hld.out hD0 hp1 hin.out (Or.inr (by omega)) hc l5 hq.out)
        replace hcv := hide hcv
        clear hgt
        go_wp2
        go_ret
        exact ⟨c, rfl, hE.out, by omega, hVw.out⟩
    · have hE := hide (est_exit hR3.out hsd.out hld.out hD0 hp1 hin.out (Or.inl (by omega)) hc l5 hq.out)
      replace hcv := hide hcv
      go_wp2
      go_ret
      exact ⟨c, rfl, hE.out, by omega, hVw.out⟩

/-- the window holds R before and R % D behind; R / D is what is returned -/
def RetTake (w : World) (g off n : Nat) (os ds : List Nat) (e : Ending) (w' : World) : Prop :=
  ∃ os' : List Nat, e = .returned (.int .u32 ((vl (os.drop off) (n + 1) / vl ds n : Nat) : Int)) ∧ os'.length = os.length ∧ (∀ j, j < off ∨ off + (n + 1) ≤ j → lm os' j = lm os j) ∧
    vl (os'.drop off) (n + 1) = vl (os.drop off) (n + 1) % vl ds n ∧ Own w' g os' ∧ w.grownBy w' (some g)

theorem ret_u32 {a b : Nat} (h : a = b) : Ending.returned (.int .u32 (a : Int)) = .returned (.int .u32 (b : Int)) := by rw [h]
theorem ret_u32' {a b : Nat} (h : a = b + 1) : Ending.returned (.int .u32 ((a : Int) - 1)) = .returned (.int .u32 (b : Int)) := by
  have e : (a : Int) - 1 = (b : Int) := by omega
  rw [e]
theorem take_exact {R' R D c : Nat} (hD : 0 < D) (hc : c = R / D ∨ c = R / D + 1) (h : R' + D * c = R) : c = R / D ∧ R' = R % D := by
  have h1 := Nat.div_add_mod R D
  have h2 := Nat.mod_lt R hD
  rcases hc with rfl | rfl
  · exact ⟨rfl, by omega⟩
  · rw [Nat.mul_add] at h; omega
theorem take_over {R' R'' R D c t P : Nat} (hD : 0 < D) (hc : c = R / D ∨ c = R / D + 1) (h : R' + D * c = R + P) (hR' : R' < P) (hR'' : R'' < P) (_hDP : D ≤ P) (hb : R'' + P * t = R' + D) (ht : t ≤ 1) : c = R / D + 1 ∧ R'' = R % D := by
  have h1 := Nat.div_add_mod R D
  have h2 := Nat.mod_lt R hD
  rcases hc with rfl | rfl
  · omega
  · rw [Nat.mul_add] at h
    refine ⟨rfl, ?_⟩
    rcases (show t = 0 ∨ t = 1 by omega) with rfl | rfl
    · omega
    · omega

set_option maxHeartbeats 1000000 in
theorem takeOut_any (w : World) (g off cS Bd p cd : Nat) (Ad : Option Addr) (os ds : List Nat) (hO : Own w g os) (hoff : off + (p + 3) ≤ os.length) (_hbs : os.length ≤ 70368744177664) (hcS : p + 3 ≤ cS) (hcS2 : cS ≤ 70368744177664) (hd : Rd w Bd Ad (p + 2) cd ds) (hB : Bd ≤ g)
    (hh : lm ds (p + 1) ≠ 0) (hR : vl (os.drop off) (p + 3) < 4294967296 * vl ds (p + 2)) :
    Calls Try.prog 132 #[.slice (some ⟨g, off, none⟩) (p + 3) cS, .slice Ad (p + 2) cd] w (RetTake w g off (p + 2) os ds) := by
  have hrd := hide (hO.rd (off := off) (n := p + 3) (c := cS) (by omega) hcS hcS2 (Nat.lt_succ_self g))
  have evr : vl ((os.drop off).take (p + 3)) (p + 3) = vl (os.drop off) (p + 3) := vl_take (Nat.le_refl _)
  have hD0 : 0 < vl ds (p + 2) := by omega
  have hDP := vl_lt hd.limbs (p + 2)
  have hDP2 := pw_lt (show p + 2 < p + 3 by omega)
  have hDlt : vl ds (p + 2) ≤ pw (p + 3) := by omega
  have hR2 := hide (show vl ((os.drop off).take (p + 3)) (p + 3) < 4294967296 * vl ds (p + 2) by rw [evr]; exact hR)
  have hbig := hd.big
  have hcap := hd.cap
  have H := hide hd
  replace hO := hide hO
  replace hD0 := hide hD0
  replace hDlt := hide hDlt
  replace evr := hide evr
  replace hh := hide hh
  clear hR hDP hDP2 hd
  go_enter Try.func132, Try.ntmps132
  go_wp2_with fail
  refine (estimate_any w (g + 1) Bd p cS cd _ Ad _ ds hrd.out H.out hh.out hR2.out).mono ?_
  rintro e w' ⟨c, rfl, hc, hcl, q, rfl⟩
  rw [evr.out] at hc
  have hO1 := hide (hO.out.drewN q)
  have H1 := hide (H.out.drewN q)
  have hg1 : w.grownBy (w.drewN q) (some g) := ⟨rfl, rfl, rfl, Nat.le_refl _, fun _ _ _ => rfl⟩
  replace hg1 := hide hg1
  replace hc := hide hc
  generalize w.drewN q = w1 at *
  go_wp2_with fail
  refine (subtractTimes_any w1 g off cS Bd (p + 2) cd Ad os ds c hO1.out (by omega) H1.out hB hcl).mono ?_
  rintro e w2 ⟨os1, sb, rfl, hl1, hk1, hv1, hO2, hg2⟩
  have hv1' := hide hv1
  have hgg := hide (grown_trans hg1.out hg2)
  have hk1' := hide hk1
  have hO2' := hide hO2
  have H2 := hide (H1.out.below (below_of_grown hg2 hB (by have := hO1.out.lt; omega)))
  clear hv1 hg2 hk1 hO2
  cases sb with
  | false =>
    have hx := take_exact (R := vl (os.drop off) (p + 3)) hD0.out hc.out (by have := hv1'.out; simp only [Bool.false_eq_true, if_false, Nat.mul_zero, Nat.add_zero] at this; exact this)
    have hxh := hide hx
    clear hx
    go_wp2
    go_ret
    exact ⟨os1, ret_u32 hxh.out.1, hl1, hk1'.out, hxh.out.2, hO2'.out, hgg.out⟩
  | true =>
    have hc1 : 1 ≤ c := by
      rcases Nat.eq_zero_or_pos c with h | h
      · have h5 := hv1'.out
        have h6 := vl_lt (Limbs_drop hO2'.out.limbs off) (p + 2 + 1)
        rw [h] at h5
        simp only [if_true, Nat.mul_one, Nat.mul_zero, Nat.add_zero] at h5
        omega
      · exact h
    go_wp2_with fail
    refine (addBack_any w2 g off cS Bd (p + 2) cd Ad os1 ds hO2'.out (by omega) H2.out hB).mono ?_
    rintro e w3 ⟨os2, t, rfl, ht, hl2, hk2, hv2, hO3, hg3⟩
    have hx := take_over (R := vl (os.drop off) (p + 3)) (R'' := vl (os2.drop off) (p + 3)) (P := pw (p + 3)) hD0.out hc.out (by have := hv1'.out; simp only [if_true, Nat.mul_one] at this; exact this)
      (vl_lt (Limbs_drop hO2'.out.limbs off) (p + 3)) (vl_lt (Limbs_drop hO3.limbs off) (p + 3)) hDlt.out hv2 ht
    have hxh := hide hx
    have hk3 := hide (show ∀ j, j < off ∨ off + (p + 2 + 1) ≤ j → lm os2 j = lm os j from fun j hj => (hk2 j hj).trans (hk1'.out j hj))
    have hgg3 := hide (grown_trans hgg.out hg3)
    have hO3' := hide hO3
    have hl3 : os2.length = os.length := by omega
    clear hx hk2 hv2 hg3 hO3
    go_wp2
    go_ret
    exact ⟨os2, ret_u32' hxh.out.1, hl3, hk3.out, hxh.out.2, hO3'.out, hgg3.out⟩

end Go.Proofs.Ytdihgmbldnekhaa
