/-
  ExactTwoSided.
-/
import Derived.Test.YtonpeagedggakaaExch7
import Derived.Test.YtonpeagedggakaaSeq
import Derived.Deep.RegionWith
import Derived.Deep.QuietTactic
import Derived.BigQuiet
namespace Go.Proofs.Ytonpeagedggakaa
open Go.RowKit

theorem tails_one {q : Nat → Rat} {n : Nat} (h : qs q n = 1) (k : Nat) : qs (fun i => if i ≤ k then q i else 0) n + qs (fun i => if k + 1 ≤ i then q i else 0) n = 1 := by rw [tails, h]
theorem sgn_one {p : Rat} (h : p = 1) : sgn (p - 1).num = 0 := cmp_eq.2 h
theorem part11 (w : World) : Calls Try.prog 15 #[.int .u32 1, .int .u32 1] w (RetR w 1 1) := part_l (a := 1) (b := 1) rfl rfl (by decide) (by decide) (by decide +kernel)
/-- none of the first i is greater than element k -/
noncomputable def gtB (q : Nat → Rat) (k i : Nat) : Bool := @decide (∀ m, m < i → q m ≤ q k) (Classical.propDecidable _)
theorem gtB_zero (q : Nat → Rat) (k : Nat) : gtB q k 0 = true := by simp [gtB]
theorem gtB_no {q : Nat → Rat} {k i : Nat} (h : gtB q k i = false) : gtB q k (i + 1) = false := by
  simp only [gtB, decide_eq_false_iff_not] at h ⊢
  exact fun h2 => h fun m hm => h2 m (by omega)
theorem gtB_step {q : Nat → Rat} {k i : Nat} (h : gtB q k i = true) : gtB q k (i + 1) = decide (sgn (q i - q k).num ≤ 0) := by
  simp only [gtB, decide_eq_true_eq] at h
  unfold gtB
  refine decide_eq_decide.2 ⟨fun h2 => cmp_le.2 (h2 i (by omega)), fun h2 m hm => ?_⟩
  by_cases e : m = i
  · rw [e]; exact cmp_le.1 h2
  · exact h m (by omega)
set_option maxHeartbeats 16000000 in
set_option maxRecDepth 100000 in
theorem twosided_walk (hA : ∀ w : World, Calls Try.prog 8 #[] w (RetB w (.bool true))) {w : World} {A : Option Addr} {n c k : Nat} {X : Nat → Rc} {q : Nat → Rat} (hx : LQ (fun _ => false) w w.heap.size 1048576 A n c X q) (hs : n + szs X n ≤ 1048576) (hk : k < 256) : Calls Try.prog 5 #[.slice A n c, .int .u8 (k : Int)] w (RetB w (.bool true)) := by
  have B := hide (Below.refl w.heap.size w)
  have H_l := hide hx
  have hcap := hx.cap
  have hcb := hx.cbig
  have hsz := hide (show szs X n + 1 ≤ 1048577 by omega)
  have wk := wrap64 (n := k) (by omega)
  have wk1 : (k : Int) + 1 = ((k + 1 : Nat) : Int) := by omega
  obtain ⟨k1, hk1⟩ : ∃ k1, k1 = k + 1 := ⟨_, rfl⟩
  rw [← hk1] at wk1
  have hk1h := hide hk1
  have hk1i : k1 ≤ 1000000 := by omega
  obtain ⟨ra, hra⟩ : ∃ r, vlB n q = r := ⟨_, rfl⟩
  have hrah := hide hra
  clear hx hs hk1
  cases ra with
  | false =>
    clear hra
    go_enter Try.func5, Try.ntmps5
    go_wp2_with fail
    refine (lower_p H_l.out (by decide) (Nat.le_refl _) (CmH.any (K := 1048577) H_l.out (by decide) (by decide) hsz.out) (by decide) (k := k) rfl (by omega) hrah.out).mono ?_
    rintro e w1 ⟨x_lo, rfl, -, -, hb⟩
    replace H_l := hide (H_l.out.then_ hb)
    replace B := hide (Below.then_ B.out hb)
    clear hb
    have b_lo := hide (Box3.new w1 (.bool x_lo.s) (.slice x_lo.A x_lo.n x_lo.c) (.slice x_lo.B x_lo.m x_lo.d) rfl)
    have hb : Below w1.heap.size w1 (w1.alloc (.cells #[.bool x_lo.s, .slice x_lo.A x_lo.n x_lo.c, .slice x_lo.B x_lo.m x_lo.d] 37)) := Below.al_ (Below.refl _ _) _
    replace H_l := hide (H_l.out.then_ hb)
    replace B := hide (Below.then_ B.out hb)
    clear hb
    go_wp2_with fail
    refine (upper_p H_l.out (by decide) (Nat.le_refl _) (CmH.any (K := 1048577) H_l.out (by decide) (by decide) hsz.out) (by decide) (k := k1) rfl (by omega) hrah.out).mono ?_
    rintro e w2 ⟨x_up, rfl, -, -, hb⟩
    replace H_l := hide (H_l.out.then_ hb)
    replace b_lo := hide (b_lo.out.keep hb)
    replace B := hide (Below.then_ B.out hb)
    clear hb
    have b_up := hide (Box3.new w2 (.bool x_up.s) (.slice x_up.A x_up.n x_up.c) (.slice x_up.B x_up.m x_up.d) rfl)
    have hb : Below w2.heap.size w2 (w2.alloc (.cells #[.bool x_up.s, .slice x_up.A x_up.n x_up.c, .slice x_up.B x_up.m x_up.d] 37)) := Below.al_ (Below.refl _ _) _
    replace H_l := hide (H_l.out.then_ hb)
    replace b_lo := hide (b_lo.out.keep hb)
    replace B := hide (Below.then_ B.out hb)
    clear hb
    go_wp2_with fail
    refine (both_p H_l.out (by decide) (Nat.le_refl _) (CmH.any (K := 1048577) H_l.out (by decide) (by decide) hsz.out) (by decide) (k := k) rfl (by omega) hrah.out rfl).mono ?_
    rintro e w3 ⟨x_bo, rfl, -, -, hb⟩
    replace H_l := hide (H_l.out.then_ hb)
    replace b_lo := hide (b_lo.out.keep hb)
    replace b_up := hide (b_up.out.keep hb)
    replace B := hide (Below.then_ B.out hb)
    clear hb
    have b_bo := hide (Box3.new w3 (.bool x_bo.s) (.slice x_bo.A x_bo.n x_bo.c) (.slice x_bo.B x_bo.m x_bo.d) rfl)
    have hb : Below w3.heap.size w3 (w3.alloc (.cells #[.bool x_bo.s, .slice x_bo.A x_bo.n x_bo.c, .slice x_bo.B x_bo.m x_bo.d] 37)) := Below.al_ (Below.refl _ _) _
    replace H_l := hide (H_l.out.then_ hb)
    replace b_lo := hide (b_lo.out.keep hb)
    replace b_up := hide (b_up.out.keep hb)
    replace B := hide (Below.then_ B.out hb)
    clear hb
    go_wp2_with fail
    refine (valid_p H_l.out (by decide) (Nat.le_refl _) (CmH.any (K := 1048577) H_l.out (by decide) (by decide) hsz.out) (by decide) hrah.out).mono ?_
    rintro e w4 ⟨rfl, hb⟩
    replace H_l := hide (H_l.out.then_ hb)
    replace b_lo := hide (b_lo.out.keep hb)
    replace b_up := hide (b_up.out.keep hb)
    replace b_bo := hide (b_bo.out.keep hb)
    replace B := hide (Below.then_ B.out hb)
    clear hb
    go_wp2_with fail
    refine (hA _).mono ?_
    rintro e w5 ⟨rfl, hb⟩
    replace H_l := hide (H_l.out.then_ hb)
    replace b_lo := hide (b_lo.out.keep hb)
    replace b_up := hide (b_up.out.keep hb)
    replace b_bo := hide (b_bo.out.keep hb)
    replace B := hide (Below.then_ B.out hb)
    clear hb
    go_wp2
    go_ret
    exact ⟨rfl, B.out⟩
  | true =>
    have hn1 := (vl_len hra).1.1
    have hn121 := (vl_len hra).1.2
    have hpos := hide (vl_len hra).2.1
    have hsum := hide (vl_len hra).2.2
    have htl := hide (tails_one hsum.out k)
    rw [← hk1h.out] at htl
    clear hra
    go_enter Try.func5, Try.ntmps5
    go_wp2_with fail
    refine ((lower_p H_l.out (by decide) (Nat.le_refl _) (CmH.any (K := 1048577) H_l.out (by decide) (by decide) hsz.out) (by decide) (k := k) rfl (by omega) hrah.out).mono fun _ _ h => RetRE.fix rfl rfl h).mono ?_
    rintro e w1 ⟨x_lo, rfl, H_lo, hb⟩
    replace H_l := hide (H_l.out.then_ hb)
    replace B := hide (Below.then_ B.out hb)
    clear hb
    replace H_lo := hide H_lo
    have b_lo := hide (Box3.new w1 (.bool x_lo.s) (.slice x_lo.A x_lo.n x_lo.c) (.slice x_lo.B x_lo.m x_lo.d) rfl)
    have hb : Below w1.heap.size w1 (w1.alloc (.cells #[.bool x_lo.s, .slice x_lo.A x_lo.n x_lo.c, .slice x_lo.B x_lo.m x_lo.d] 37)) := Below.al_ (Below.refl _ _) _
    replace H_l := hide (H_l.out.then_ hb)
    replace H_lo := hide (H_lo.out.then_ hb)
    replace B := hide (Below.then_ B.out hb)
    clear hb
    go_wp2_with fail
    refine ((upper_p H_l.out (by decide) (Nat.le_refl _) (CmH.any (K := 1048577) H_l.out (by decide) (by decide) hsz.out) (by decide) (k := k1) rfl (by omega) hrah.out).mono fun _ _ h => RetRE.fix rfl rfl h).mono ?_
    rintro e w2 ⟨x_up, rfl, H_up, hb⟩
    replace H_l := hide (H_l.out.then_ hb)
    replace H_lo := hide (H_lo.out.then_ hb)
    replace b_lo := hide (b_lo.out.keep hb)
    replace B := hide (Below.then_ B.out hb)
    clear hb
    replace H_up := hide H_up
    have b_up := hide (Box3.new w2 (.bool x_up.s) (.slice x_up.A x_up.n x_up.c) (.slice x_up.B x_up.m x_up.d) rfl)
    have hb : Below w2.heap.size w2 (w2.alloc (.cells #[.bool x_up.s, .slice x_up.A x_up.n x_up.c, .slice x_up.B x_up.m x_up.d] 37)) := Below.al_ (Below.refl _ _) _
    replace H_l := hide (H_l.out.then_ hb)
    replace H_lo := hide (H_lo.out.then_ hb)
    replace H_up := hide (H_up.out.then_ hb)
    replace b_lo := hide (b_lo.out.keep hb)
    replace B := hide (Below.then_ B.out hb)
    clear hb
    go_wp2_with fail
    refine ((both_p H_l.out (by decide) (Nat.le_refl _) (CmH.any (K := 1048577) H_l.out (by decide) (by decide) hsz.out) (by decide) (k := k) rfl (by omega) hrah.out rfl).mono fun _ _ h => RetRE.fix rfl rfl h).mono ?_
    rintro e w3 ⟨x_bo, rfl, H_bo, hb⟩
    replace H_l := hide (H_l.out.then_ hb)
    replace H_lo := hide (H_lo.out.then_ hb)
    replace H_up := hide (H_up.out.then_ hb)
    replace b_lo := hide (b_lo.out.keep hb)
    replace b_up := hide (b_up.out.keep hb)
    replace B := hide (Below.then_ B.out hb)
    clear hb
    replace H_bo := hide H_bo
    have b_bo := hide (Box3.new w3 (.bool x_bo.s) (.slice x_bo.A x_bo.n x_bo.c) (.slice x_bo.B x_bo.m x_bo.d) rfl)
    have hb : Below w3.heap.size w3 (w3.alloc (.cells #[.bool x_bo.s, .slice x_bo.A x_bo.n x_bo.c, .slice x_bo.B x_bo.m x_bo.d] 37)) := Below.al_ (Below.refl _ _) _
    replace H_l := hide (H_l.out.then_ hb)
    replace H_lo := hide (H_lo.out.then_ hb)
    replace H_up := hide (H_up.out.then_ hb)
    replace H_bo := hide (H_bo.out.then_ hb)
    replace b_lo := hide (b_lo.out.keep hb)
    replace b_up := hide (b_up.out.keep hb)
    replace B := hide (Below.then_ B.out hb)
    clear hb
    have c_lo0 := b_lo.out.at0 b_lo.out.lt_size (Nat.le_refl _) _ (Below.refl _ _)
    have c_lo1 := b_lo.out.at1 b_lo.out.lt_size (Nat.le_refl _) _ (Below.refl _ _)
    have c_lo2 := b_lo.out.at2 b_lo.out.lt_size (Nat.le_refl _) _ (Below.refl _ _)
    have c_up0 := b_up.out.at0 b_up.out.lt_size (Nat.le_refl _) _ (Below.refl _ _)
    have c_up1 := b_up.out.at1 b_up.out.lt_size (Nat.le_refl _) _ (Below.refl _ _)
    have c_up2 := b_up.out.at2 b_up.out.lt_size (Nat.le_refl _) _ (Below.refl _ _)
    have c_bo0 := b_bo.out.at0 b_bo.out.lt_size (Nat.le_refl _) _ (Below.refl _ _)
    have c_bo1 := b_bo.out.at1 b_bo.out.lt_size (Nat.le_refl _) _ (Below.refl _ _)
    have c_bo2 := b_bo.out.at2 b_bo.out.lt_size (Nat.le_refl _) _ (Below.refl _ _)
    go_wp2_with fail
    refine (add_q H_lo.out.rq (by decide) H_up.out.rq (by decide) (Nat.le_refl _) htl.out).mono ?_
    rintro e w4 ⟨x_s, rfl, H_s, hb⟩
    replace H_l := hide (H_l.out.then_ hb)
    replace H_lo := hide (H_lo.out.then_ hb)
    replace H_up := hide (H_up.out.then_ hb)
    replace H_bo := hide (H_bo.out.then_ hb)
    replace b_lo := hide (b_lo.out.keep hb)
    replace b_up := hide (b_up.out.keep hb)
    replace b_bo := hide (b_bo.out.keep hb)
    replace B := hide (Below.then_ B.out hb)
    clear hb
    replace H_s := hide H_s
    go_wp2_with fail
    refine (part_l (a := 1) (b := 1) (q := 1) rfl rfl (by decide) (by decide) (by decide +kernel)).mono ?_
    rintro e w5 ⟨x_one, rfl, H_one, hb⟩
    replace H_l := hide (H_l.out.then_ hb)
    replace H_lo := hide (H_lo.out.then_ hb)
    replace H_up := hide (H_up.out.then_ hb)
    replace H_bo := hide (H_bo.out.then_ hb)
    replace H_s := hide (H_s.out.then_ hb)
    replace b_lo := hide (b_lo.out.keep hb)
    replace b_up := hide (b_up.out.keep hb)
    replace b_bo := hide (b_bo.out.keep hb)
    replace B := hide (Below.then_ B.out hb)
    clear hb
    replace H_one := hide H_one
    go_wp2_with fail
    refine (cmp_q H_s.out.rq (by decide) H_one.out (by decide) (Nat.le_refl _) (cmp_eq.2 rfl)).mono ?_
    rintro e w6 ⟨rfl, hb⟩
    replace H_l := hide (H_l.out.then_ hb)
    replace H_lo := hide (H_lo.out.then_ hb)
    replace H_up := hide (H_up.out.then_ hb)
    replace H_bo := hide (H_bo.out.then_ hb)
    replace H_s := hide (H_s.out.then_ hb)
    replace H_one := hide (H_one.out.then_ hb)
    replace b_lo := hide (b_lo.out.keep hb)
    replace b_up := hide (b_up.out.keep hb)
    replace b_bo := hide (b_bo.out.keep hb)
    replace B := hide (Below.then_ B.out hb)
    clear hb
    clear c_lo0 c_lo1 c_lo2
    clear c_up0 c_up1 c_up2
    clear c_bo0 c_bo1 c_bo2
    clear H_s
    clear H_one
    clear H_lo
    by_cases hkn : n ≤ k
    · have t0 : decide ((n : Int) ≤ (k : Int)) = true := by simp; omega
      have hb0 := hide (show (if k < n then both q k n else 0) = 0 from if_neg (by omega))
      have hu0 := hide (show qs (fun i => if k1 ≤ i then q i else 0) n = 0 from qs_zero fun i hi => if_neg (by have := hk1h.out; omega))
      rw [hb0.out] at H_bo
      rw [hu0.out] at H_up
      have c_lo0 := b_lo.out.at0 b_lo.out.lt_size (Nat.le_refl _) _ (Below.refl _ _)
      have c_lo1 := b_lo.out.at1 b_lo.out.lt_size (Nat.le_refl _) _ (Below.refl _ _)
      have c_lo2 := b_lo.out.at2 b_lo.out.lt_size (Nat.le_refl _) _ (Below.refl _ _)
      have c_up0 := b_up.out.at0 b_up.out.lt_size (Nat.le_refl _) _ (Below.refl _ _)
      have c_up1 := b_up.out.at1 b_up.out.lt_size (Nat.le_refl _) _ (Below.refl _ _)
      have c_up2 := b_up.out.at2 b_up.out.lt_size (Nat.le_refl _) _ (Below.refl _ _)
      have c_bo0 := b_bo.out.at0 b_bo.out.lt_size (Nat.le_refl _) _ (Below.refl _ _)
      have c_bo1 := b_bo.out.at1 b_bo.out.lt_size (Nat.le_refl _) _ (Below.refl _ _)
      have c_bo2 := b_bo.out.at2 b_bo.out.lt_size (Nat.le_refl _) _ (Below.refl _ _)
      go_wp2_with fail
      refine (sign_q H_bo.out.rq (by decide) (Nat.le_refl _) (k := 0) rfl).mono ?_
      rintro e w7 ⟨rfl, hb⟩
      replace H_l := hide (H_l.out.then_ hb)
      replace H_up := hide (H_up.out.then_ hb)
      replace H_bo := hide (H_bo.out.then_ hb)
      replace b_lo := hide (b_lo.out.keep hb)
      replace b_up := hide (b_up.out.keep hb)
      replace b_bo := hide (b_bo.out.keep hb)
      replace B := hide (Below.then_ B.out hb)
      clear hb
      clear c_lo0 c_lo1 c_lo2
      clear c_up0 c_up1 c_up2
      clear c_bo0 c_bo1 c_bo2
      have c_lo0 := b_lo.out.at0 b_lo.out.lt_size (Nat.le_refl _) _ (Below.refl _ _)
      have c_lo1 := b_lo.out.at1 b_lo.out.lt_size (Nat.le_refl _) _ (Below.refl _ _)
      have c_lo2 := b_lo.out.at2 b_lo.out.lt_size (Nat.le_refl _) _ (Below.refl _ _)
      have c_up0 := b_up.out.at0 b_up.out.lt_size (Nat.le_refl _) _ (Below.refl _ _)
      have c_up1 := b_up.out.at1 b_up.out.lt_size (Nat.le_refl _) _ (Below.refl _ _)
      have c_up2 := b_up.out.at2 b_up.out.lt_size (Nat.le_refl _) _ (Below.refl _ _)
      have c_bo0 := b_bo.out.at0 b_bo.out.lt_size (Nat.le_refl _) _ (Below.refl _ _)
      have c_bo1 := b_bo.out.at1 b_bo.out.lt_size (Nat.le_refl _) _ (Below.refl _ _)
      have c_bo2 := b_bo.out.at2 b_bo.out.lt_size (Nat.le_refl _) _ (Below.refl _ _)
      go_wp2_with fail
      refine (sign_q H_up.out.rq (by decide) (Nat.le_refl _) (k := 0) rfl).mono ?_
      rintro e w8 ⟨rfl, hb⟩
      replace H_l := hide (H_l.out.then_ hb)
      replace H_up := hide (H_up.out.then_ hb)
      replace H_bo := hide (H_bo.out.then_ hb)
      replace b_lo := hide (b_lo.out.keep hb)
      replace b_up := hide (b_up.out.keep hb)
      replace b_bo := hide (b_bo.out.keep hb)
      replace B := hide (Below.then_ B.out hb)
      clear hb
      go_wp2_with fail
      refine (hA _).mono ?_
      rintro e w9 ⟨rfl, hb⟩
      replace H_l := hide (H_l.out.then_ hb)
      replace H_up := hide (H_up.out.then_ hb)
      replace H_bo := hide (H_bo.out.then_ hb)
      replace b_lo := hide (b_lo.out.keep hb)
      replace b_up := hide (b_up.out.keep hb)
      replace b_bo := hide (b_bo.out.keep hb)
      replace B := hide (Below.then_ B.out hb)
      clear hb
      go_wp2
      go_ret
      exact ⟨rfl, B.out⟩
    · have t0 : decide ((n : Int) ≤ (k : Int)) = false := by simp; omega
      have hkn' : k < n := by omega
      have hk64 : (k : Int) < (n : Int) := by omega
      rw [if_pos hkn'] at H_bo
      go_wp2
      go_loopw [11, 12] (fun gv iv wr => ∃ (i : Nat), i ≤ n ∧ gv = .bool (gtB q k i) ∧ iv = .int .i64 i ∧ Hid (Below w6.heap.size w6 wr) ∧ Hid (Below w.heap.size w wr)) (fun _ iv _ => n - (intOf iv).toNat)
      case atStart => exact ⟨0, Nat.zero_le _, by rw [gtB_zero], rfl, hide (Below.refl _ _), B⟩
      case round =>
        obtain ⟨i, hi, rfl, rfl, hb, B2⟩ := hrel
        clear B
        by_cases hil : i < n
        · have hi64 : (i : Int) < (n : Int) := by omega
          obtain ⟨gb, hgb⟩ : ∃ b, gtB q k i = b := ⟨_, rfl⟩
          rw [hgb]
          have HW := H_l.out.then_ hb.out
          obtain ⟨ad, hA1, hab, E0, E1, E2⟩ := HW.all hil
          obtain ⟨ad', hA2, _, F0, F1, F2⟩ := HW.all hkn'
          rw [hA1] at hA2
          simp only [Option.some.injEq] at hA2
          subst hA2 hA1
          have RX := hide (HW.nums i hil).1
          have RK := hide (HW.nums k hkn').1
          obtain ⟨cv, hcv⟩ : ∃ v, sgn (q i - q k).num = v := ⟨_, rfl⟩
          have hcvh := hide hcv
          have hbx := Below.drw_ wr
          clear HW hab
          cases gb with
          | false =>
            have hnext := hide (gtB_no hgb)
            clear hgb hcv
            go_wp2_with fail
            go_quiet (fail)
            all_goals
              clear E0 E1 E2 F0 F1 F2
              go_wp2
              go_roundw
              case rel => exact ⟨i + 1, by omega, by rw [hnext.out], by go_num, hide (Below.then_ hb.out (below_drewN (Below.refl _ _) _)), hide (Below.then_ B2.out (below_drewN (Below.refl _ _) _))⟩
              case measure => simp [intOf]; omega
          | true =>
            have hnext := hide (gtB_step hgb)
            rw [hcv] at hnext
            clear hgb hcv
            go_wp2_with fail
            go_region_held3 (fun w' => Below wr.heap.size wr w') (first | (with_reducible assumption)) (first | (go_at_call 16; (with_reducible refine (cmp_q (RX.out.then_ hbx) (by decide) (RK.out.then_ hbx) (by decide) (Nat.le_refl _) hcvh.out).mono ?_); rintro e w9 ⟨rfl, hb9⟩; have U9 : Below wr.heap.size wr w9 := Below.then_ hbx hb9; have hb2 := hide (Below.then_ hb.out U9); have B3 := hide (Below.then_ B2.out U9); clear hb9))
            all_goals
              clear E0 E1 E2 F0 F1 F2
              go_wp2
              go_roundw
              case rel => exact ⟨i + 1, by omega, by rw [hnext.out], by go_num, hb2, B3⟩
              case measure => simp [intOf]; omega
        · obtain rfl : i = n := by omega
          obtain ⟨gb, hgb⟩ : ∃ b, gtB q k i = b := ⟨_, rfl⟩
          rw [hgb]
          obtain ⟨p, hp⟩ : ∃ p, both q k i = p := ⟨_, rfl⟩
          rw [hp] at H_bo
          have hple : p ≤ 1 := by rw [← hp, ← hsum.out]; exact both_le hpos.out k
          have hpge : q k ≤ p := by rw [← hp]; exact both_ge hpos.out hkn'
          have hpall : gb = true → p = 1 := fun e => by
            rw [← hgb] at e
            simp only [gtB, decide_eq_true_eq] at e
            rw [← hp, ← hsum.out]
            exact both_all e
          obtain ⟨cv, hcv⟩ : ∃ v, sgn (p - 1).num = v := ⟨_, rfl⟩
          obtain ⟨cu, hcu⟩ : ∃ v, sgn (p - q k).num = v := ⟨_, rfl⟩
          have hcvh := hide hcv
          have hcuh := hide hcu
          have d0 : decide (cv ≤ 0) = true := by rw [← hcv]; exact decide_eq_true (cmp_le.2 hple)
          have d1 : decide ((0 : Int) ≤ cu) = true := by
            rw [← hcu]
            refine decide_eq_true ?_
            exact Int.not_lt.1 fun h => Rat.not_lt.2 hpge (cmp_lt.1 h)
          have hc0 : gb = true → cv = 0 := fun e => by rw [← hcv]; exact cmp_eq.2 (hpall e)
          have H_q := hide (H_l.out.then_ hb.out)
          obtain ⟨ad', hA2, hab2, F0, F1, F2⟩ := H_q.out.all hkn'
          subst hA2
          replace H_bo := hide (H_bo.out.then_ hb.out)
          have RK := hide (H_q.out.nums k hkn').1
          have b_b := hide (b_bo.out.keep hb.out)
          clear hcv hcu hpall hple hpge hgb hp hil b_bo b_lo b_up H_up H_l H_q hb
          have c_b0 := b_b.out.at0 b_b.out.lt_size (Nat.le_refl _)
          have c_b1 := b_b.out.at1 b_b.out.lt_size (Nat.le_refl _)
          have c_b2 := b_b.out.at2 b_b.out.lt_size (Nat.le_refl _)
          have U0 : Below wr.heap.size wr wr := Below.refl _ _
          have hbx := Below.drw_ wr
          have RB := hide H_bo.out.rq
          clear H_bo b_b
          go_wp2_with fail
          go_region_held3 (fun w' => Below wr.heap.size wr w') (first | (with_reducible assumption)) (first | (go_at_call 15; (with_reducible refine (part11 _).mono ?_); rintro e w7 ⟨x7, rfl, R7, hb7⟩; have U7 : Below wr.heap.size wr w7 := Below.then_ hbx hb7; replace R7 := hide R7; clear hb7) | (go_at_call 16; (with_reducible refine (cmp_q (RB.out.then_ U7) (by decide) R7.out (by decide) (Nat.le_refl _) hcvh.out).mono ?_); rintro e w8 ⟨rfl, hb8⟩; have U8 : Below wr.heap.size wr w8 := Below.then_ U7 hb8; clear hb8 R7))
          all_goals
            clear U0 hbx U7
            have hbx := Below.then_ U8 (Below.drw_ w8)
            replace B2 := hide (Below.then_ B2.out U8)
            cases gb with
            | true =>
              obtain rfl : cv = 0 := hc0 rfl
              clear hc0
              go_wp2_with fail
              go_region_held3 (fun w' => Below wr.heap.size wr w') (first | (with_reducible assumption)) (first | (go_at_call 16; (with_reducible refine (cmp_q (RB.out.then_ hbx) (by decide) (RK.out.then_ hbx) (by decide) (Nat.le_refl _) hcuh.out).mono ?_); rintro e w9 ⟨rfl, hb9⟩; have U9 : Below wr.heap.size wr w9 := Below.then_ hbx hb9; have B9 := hide (Below.then_ (Below.then_ B2.out (Below.drw_ w8)) hb9); clear hb9) | (go_at_call 8; (with_reducible refine (hA _).mono ?_); rintro e w10 ⟨rfl, hb10⟩; have U10 : Below wr.heap.size wr w10 := Below.then_ U9 hb10; have B10 := hide (Below.then_ B9.out hb10); clear hb10))
              all_goals
                go_wp2
                go_ret
                exact ⟨rfl, B10.out⟩
            | false =>
              clear hc0
              go_wp2_with fail
              refine region_seq (S := fun w' => Below wr.heap.size wr w') [(true, 0), (true, 1), (true, 2), (true, 3), (true, 4), (true, 5), (true, 6), (true, 7), (true, 8), (true, 9), (true, 10), (true, 11), (true, 12), (true, 13), (true, 14), (true, 15), (false, 16), (true, 17), (true, 18), (true, 19), (false, 20), (true, 21), (true, 22)] (by kernel_rfl) (by kernel_rfl) (by kernel_rfl) (by decide) hbx ?_
              simp only [List.map_cons, List.map_nil, List.getElem?_toArray, List.getElem?_cons_succ, List.getElem?_cons_zero]
              repeat (first | ((with_reducible refine seq_take (v := ?_) ?_ ?_ ?_); rotate_left; (exact rfl); (focus (intro w' hSw; go_simp; try with_reducible rfl)); (try simp only [Act.put, List.setIfInBounds_toArray, List.set_cons_zero, List.set_cons_succ])) | ((with_reducible refine seq_pass ?_ ?_); (exact rfl); (try simp only [Act.put, List.setIfInBounds_toArray, List.set_cons_zero, List.set_cons_succ])))
              (with_reducible refine seq_call ?_ (fun K hK => ?_))
              (exact rfl)
              go_simp
              refine (cmp_q (RB.out.then_ hbx) (by decide) (RK.out.then_ hbx) (by decide) (Nat.le_refl _) hcuh.out).mono ?_
              rintro e w9 ⟨rfl, hb9⟩
              have U9 : Below wr.heap.size wr w9 := Below.then_ hbx hb9
              have B9 := hide (Below.then_ (Below.then_ B2.out (Below.drw_ w8)) hb9)
              clear hb9
              refine hK.out _ _ U9 ?_
              clear hK K
              (try simp only [Act.put, List.setIfInBounds_toArray, List.set_cons_zero, List.set_cons_succ])
              repeat (first | ((with_reducible refine seq_take (v := ?_) ?_ ?_ ?_); rotate_left; (exact rfl); (focus (intro w' hSw; go_simp; try with_reducible rfl)); (try simp only [Act.put, List.setIfInBounds_toArray, List.set_cons_zero, List.set_cons_succ])) | ((with_reducible refine seq_pass ?_ ?_); (exact rfl); (try simp only [Act.put, List.setIfInBounds_toArray, List.set_cons_zero, List.set_cons_succ])))
              (with_reducible refine seq_call ?_ (fun K hK => ?_))
              (exact rfl)
              go_simp
              refine (hA _).mono ?_
              rintro e w10 ⟨rfl, hb10⟩
              have U10 : Below wr.heap.size wr w10 := Below.then_ U9 hb10
              have B10 := hide (Below.then_ B9.out hb10)
              clear hb10
              refine hK.out _ _ U10 ?_
              clear hK K
              (try simp only [Act.put, List.setIfInBounds_toArray, List.set_cons_zero, List.set_cons_succ])
              repeat (first | ((with_reducible refine seq_take (v := ?_) ?_ ?_ ?_); rotate_left; (exact rfl); (focus (intro w' hSw; go_simp; try with_reducible rfl)); (try simp only [Act.put, List.setIfInBounds_toArray, List.set_cons_zero, List.set_cons_succ])) | ((with_reducible refine seq_pass ?_ ?_); (exact rfl); (try simp only [Act.put, List.setIfInBounds_toArray, List.set_cons_zero, List.set_cons_succ])))
              refine seq_done ?_
              all_goals
                go_wp2
                go_ret
                exact ⟨rfl, B10.out⟩
end Go.Proofs.Ytonpeagedggakaa
