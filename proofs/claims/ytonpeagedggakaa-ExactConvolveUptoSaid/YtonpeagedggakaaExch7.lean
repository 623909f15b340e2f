/-
  ExactExchange.
-/
import Derived.Test.YtonpeagedggakaaAwkB
import Derived.Test.YtonpeagedggakaaExRA
namespace Go.Proofs.Ytonpeagedggakaa
open Go.RowKit

/-- a list in normal form was handed back, beside an error -/
def RetLF (w : World) (L n : Nat) (z : Nat → Rat) (k : Int) (e : Ending) (w' : World) : Prop :=
  ∃ (A : Option Addr) (c : Nat) (Z : Nat → Rc), e = .returned (.tuple #[.slice A n c, .int .i64 k]) ∧ LQ (fun _ => true) w' w'.heap.size L A n c Z z ∧ Below w.heap.size w w'
theorem RetLE.fix {w : World} {L n : Nat} {z : Nat → Rat} {k : Int} {e : Ending} {w' : World} (h : RetLE w L n z k e w') : RetLF w L n z k e w' := by
  obtain ⟨A, c, Z, y, h1, h2, h3, h4⟩ := h
  exact ⟨A, c, Z, h1, h2.congr h3, h4⟩
def RetRF (w : World) (L : Nat) (q : Rat) (e : Ending) (w' : World) : Prop :=
  ∃ x : Rc, e = .returned (.tuple #[.agg #[.bool x.s, .slice x.A x.n x.c, .slice x.B x.m x.d], .int .i64 0]) ∧ Nq w' w'.heap.size L x q ∧ Below w.heap.size w w'
theorem RetRE.fix {w : World} {L : Nat} {q r : Rat} {k : Int} (hk : k = 0) (hq : q = r) {e : Ending} {w' : World} (h : RetRE w L q k e w') : RetRF w L r e w' := by
  obtain ⟨x, h1, h2, _, h4⟩ := h
  subst hk hq
  exact ⟨x, h1, h2 rfl, h4⟩
theorem wrap64 {n : Nat} (h : n < 9223372036854775808) : IntKind.i64.wrap (n : Int) = (n : Int) := by rw [IntKind.wrap_i64]; omega
theorem wrap32 {n : Nat} (h : n < 4294967296) : IntKind.u32.wrap (n : Int) = (n : Int) := by
  simp only [IntKind.wrap, IntKind.bits, IntKind.signed]
  simp
  omega
theorem hyN_no {t m d : Nat} (h : ¬ (t ≤ 120 ∧ m ≤ t ∧ d ≤ t)) : hyN t m d = (3, 0) := by
  unfold hyN
  rw [if_neg]
  simp only [decide_eq_true_eq]
  rintro ⟨⟨h1, h2⟩, ⟨h3, h4⟩, h5, h6⟩
  exact h ⟨by omega, by omega, by omega⟩
theorem hyp_in {t m d : Nat} (hd : d ≤ t) (k : Nat) : In (ch t d) (hyp t m d k) := by
  have hne := cq_ne hd
  refine ⟨ch m k * ch (t - m) (d - k), ?_⟩
  rw [Rat.natCast_mul]
  show hyp t m d k * cq t d = cq m k * cq (t - m) (d - k)
  unfold hyp
  exact Rat.div_mul_cancel hne
theorem hyp_nonneg {t m d : Nat} (hd : d ≤ t) (k : Nat) : 0 ≤ hyp t m d k := by
  obtain ⟨a, ha⟩ := hyp_in (m := m) hd k
  have h1 : (0 : Rat) < ((ch t d : Nat) : Rat) := by
    have h2 : (0 : Rat) ≤ ((ch t d : Nat) : Rat) := Rat.natCast_nonneg
    have h3 := natCast_ne (Nat.pos_iff_ne_zero.1 (ch_pos hd))
    grind
  have h4 : (0 : Rat) ≤ (a : Rat) := Rat.natCast_nonneg
  rw [← ha] at h4
  by_cases h5 : 0 ≤ hyp t m d k
  · exact h5
  · have h6 := Rat.mul_lt_mul_of_pos_right (Rat.not_le.1 h5) h1
    rw [Rat.zero_mul] at h6
    grind
theorem hyp_vld {t m d : Nat} (ht : t ≤ 120) (hm : m ≤ t) (hd : d ≤ t) : VldQ (min m d + 1) (hyp t m d) :=
  ⟨by omega, fun i _ => hyp_nonneg hd i, hyp_sum hm hd⟩
theorem hyp_mq {t m d : Nat} (hm : m ≤ t) (hd : d ≤ t) (ht : 0 < t) : qs (mq 1 (hyp t m d)) (min m d + 1) = (m : Rat) / (t : Rat) * (d : Rat) := by
  rw [← hyp_mean hm hd ht]
  exact qs_congr fun i _ => by
    simp only [mq]
    rw [if_neg (by decide)]
    grind
theorem qv_frac {a b : Nat} (hb : b ≠ 0) : qv false a b = (a : Rat) / (b : Rat) := by
  rw [qv_ne hb, Rat.divInt_eq_div, Rat.intCast_natCast]
  rfl
set_option maxHeartbeats 16000000 in
set_option maxRecDepth 100000 in
theorem exchange_walk (hA : ∀ w : World, Calls Try.prog 8 #[] w (RetB w (.bool true))) {w : World} {T M D : Nat} (hT : T < 256) (hM : M < 256) (hD : D < 256) : Calls Try.prog 4 #[.int .u8 (T : Int), .int .u8 (M : Int), .int .u8 (D : Int)] w (RetB w (.bool true)) := by
  have B := hide (Below.refl w.heap.size w)
  have wT := wrap64 (n := T) (by omega)
  have wM := wrap64 (n := M) (by omega)
  have wD := wrap64 (n := D) (by omega)
  have vT := wrap32 (n := T) (by omega)
  have vM := wrap32 (n := M) (by omega)
  have vD := wrap32 (n := D) (by omega)
  by_cases hok : T ≤ 120 ∧ M ≤ T ∧ D ≤ T
  · obtain ⟨h1, h2, h3⟩ := hok
    have hk1 := hide (hyN_ok h1 h2 h3)
    have hk2 := hide (show hyN T D M = (0, min M D + 1) by rw [hyN_ok h1 h3 h2, Nat.min_comm])
    have hsame := hide (show ∀ i, i < min M D + 1 → hyp T M D i = hyp T D M i from fun i hi => hyp_exchange h2 h3 (by omega) (by omega))
    have hv := hide (hyp_vld h1 h2 h3)
    have hin := hide (fun (i : Nat) (_ : i < min M D + 1) => hyp_in (m := M) h3 i)
    have hP := hide (ch_pos h3)
    have hPs := hide (ch_sm (n := T) (k := D) (by omega))
    have hN := hide (show min M D + 1 ≤ 121 by omega)
    have hmq := hide (fun (h : 0 < T) => hyp_mq h2 h3 h)
    obtain ⟨N, hNN⟩ : ∃ N, N = min M D + 1 := ⟨_, rfl⟩
    rw [← hNN] at hk1 hk2 hsame hv hin hN hmq
    clear hNN
    go_enter Try.func4, Try.ntmps4
    go_wp2_with fail
    refine ((hyper_p hk1.out).mono fun _ _ h => RetLE.fix h).mono ?_
    rintro e w1 ⟨A_d, c_d, Z_d, rfl, H_d, hb⟩
    replace B := hide (Below.then_ B.out hb)
    clear hb
    replace H_d := hide H_d
    simp only [Int.toNat_natCast] at H_d
    go_wp2_with fail
    refine ((hyper_p hk2.out).mono fun _ _ h => RetLE.fix h).mono ?_
    rintro e w2 ⟨A_c, c_c, Z_c, rfl, H_c, hb⟩
    replace H_d := hide (H_d.out.then_ hb)
    replace B := hide (Below.then_ B.out hb)
    clear hb
    replace H_c := hide H_c
    simp only [Int.toNat_natCast] at H_c
    go_wp2_with fail
    refine (samelist_c H_d.out H_c.out (Nat.le_refl _) hsame.out (by have := hN.out; omega)).mono ?_
    rintro e w3 ⟨rfl, hb⟩
    replace H_d := hide (H_d.out.then_ hb)
    replace H_c := hide (H_c.out.then_ hb)
    replace B := hide (Below.then_ B.out hb)
    clear hb
    clear H_c
    by_cases h0 : T = 0
    · have t0 : ((T : Int) == 0) = true := by simp [h0]
      clear h1 h2 h3 hmq
      go_wp2_with fail
      refine (hA _).mono ?_
      rintro e w4 ⟨rfl, hb⟩
      replace H_d := hide (H_d.out.then_ hb)
      replace B := hide (Below.then_ B.out hb)
      clear hb
      go_wp2
      go_ret
      exact ⟨rfl, B.out⟩
    · have t0 : ((T : Int) == 0) = false := by simp; omega
      have hm2 := hide (hmq.out (by omega))
      have hq1 := hide (qv_frac (a := M) h0)
      have hq2 := hide (qv_frac (a := D) (b := 1) (by decide))
      clear h1 h2 h3 hmq
      go_wp2_with fail
      refine ((mean_p H_d.out (by decide) (Nat.le_refl _) (CmH.nf H_d.out (by decide) (K := 1000000) (by decide) hP.out hin.out hPs.out) (by decide) (vl_yes hv.out)).mono fun _ _ h => RetRE.fix rfl hm2.out h).mono ?_
      rintro e w4 ⟨x_m, rfl, H_m, hb⟩
      replace H_d := hide (H_d.out.then_ hb)
      replace B := hide (Below.then_ B.out hb)
      clear hb
      replace H_m := hide H_m
      have b_m := hide (Box3.new w4 (.bool x_m.s) (.slice x_m.A x_m.n x_m.c) (.slice x_m.B x_m.m x_m.d) rfl)
      have hb : Below w4.heap.size w4 (w4.alloc (.cells #[.bool x_m.s, .slice x_m.A x_m.n x_m.c, .slice x_m.B x_m.m x_m.d] 37)) := Below.al_ (Below.refl _ _) _
      replace H_d := hide (H_d.out.then_ hb)
      replace H_m := hide (H_m.out.then_ hb)
      replace B := hide (Below.then_ B.out hb)
      clear hb
      go_wp2_with fail
      refine (part_l (a := M) (b := T) rfl rfl (by omega) (by omega) hq1.out).mono ?_
      rintro e w5 ⟨x_p, rfl, H_p, hb⟩
      replace H_d := hide (H_d.out.then_ hb)
      replace H_m := hide (H_m.out.then_ hb)
      replace b_m := hide (b_m.out.keep hb)
      replace B := hide (Below.then_ B.out hb)
      clear hb
      replace H_p := hide H_p
      go_wp2_with fail
      refine (part_l (a := D) (b := 1) rfl rfl (by omega) (by omega) hq2.out).mono ?_
      rintro e w6 ⟨x_r, rfl, H_r, hb⟩
      replace H_d := hide (H_d.out.then_ hb)
      replace H_m := hide (H_m.out.then_ hb)
      replace H_p := hide (H_p.out.then_ hb)
      replace b_m := hide (b_m.out.keep hb)
      replace B := hide (Below.then_ B.out hb)
      clear hb
      replace H_r := hide H_r
      go_wp2_with fail
      refine (mul_q H_p.out (by decide) H_r.out (by decide) (Nat.le_refl _) (show (M : Rat) / (T : Rat) * ((D : Rat) / ((1 : Nat) : Rat)) = (M : Rat) / (T : Rat) * (D : Rat) by rw [show ((1 : Nat) : Rat) = 1 from rfl]; congr 1; rw [Rat.div_def]; grind)).mono ?_
      rintro e w7 ⟨x_x, rfl, H_x, hb⟩
      replace H_d := hide (H_d.out.then_ hb)
      replace H_m := hide (H_m.out.then_ hb)
      replace H_p := hide (H_p.out.then_ hb)
      replace H_r := hide (H_r.out.then_ hb)
      replace b_m := hide (b_m.out.keep hb)
      replace B := hide (Below.then_ B.out hb)
      clear hb
      replace H_x := hide H_x
      clear H_p
      clear H_r
      have b_x := hide (Box3.new w7 (.bool x_x.s) (.slice x_x.A x_x.n x_x.c) (.slice x_x.B x_x.m x_x.d) rfl)
      have hb : Below w7.heap.size w7 (w7.alloc (.cells #[.bool x_x.s, .slice x_x.A x_x.n x_x.c, .slice x_x.B x_x.m x_x.d] 37)) := Below.al_ (Below.refl _ _) _
      replace H_d := hide (H_d.out.then_ hb)
      replace H_m := hide (H_m.out.then_ hb)
      replace H_x := hide (H_x.out.then_ hb)
      replace b_m := hide (b_m.out.keep hb)
      replace B := hide (Below.then_ B.out hb)
      clear hb
      go_wp2_with fail
      refine (valid_p H_d.out (by decide) (Nat.le_refl _) (CmH.nf H_d.out (by decide) (K := 1000000) (by decide) hP.out hin.out hPs.out) (by decide) (vl_yes hv.out)).mono ?_
      rintro e w8 ⟨rfl, hb⟩
      replace H_d := hide (H_d.out.then_ hb)
      replace H_m := hide (H_m.out.then_ hb)
      replace H_x := hide (H_x.out.then_ hb)
      replace b_m := hide (b_m.out.keep hb)
      replace b_x := hide (b_x.out.keep hb)
      replace B := hide (Below.then_ B.out hb)
      clear hb
      have c_m0 := b_m.out.at0 b_m.out.lt_size (Nat.le_refl _) _ (Below.refl _ _)
      have c_m1 := b_m.out.at1 b_m.out.lt_size (Nat.le_refl _) _ (Below.refl _ _)
      have c_m2 := b_m.out.at2 b_m.out.lt_size (Nat.le_refl _) _ (Below.refl _ _)
      have c_x0 := b_x.out.at0 b_x.out.lt_size (Nat.le_refl _) _ (Below.refl _ _)
      have c_x1 := b_x.out.at1 b_x.out.lt_size (Nat.le_refl _) _ (Below.refl _ _)
      have c_x2 := b_x.out.at2 b_x.out.lt_size (Nat.le_refl _) _ (Below.refl _ _)
      go_wp2_with fail
      refine (cmp_q H_m.out.rq (by decide) H_x.out.rq (by decide) (Nat.le_refl _) (cmp_eq.2 rfl)).mono ?_
      rintro e w9 ⟨rfl, hb⟩
      replace H_d := hide (H_d.out.then_ hb)
      replace H_m := hide (H_m.out.then_ hb)
      replace H_x := hide (H_x.out.then_ hb)
      replace b_m := hide (b_m.out.keep hb)
      replace b_x := hide (b_x.out.keep hb)
      replace B := hide (Below.then_ B.out hb)
      clear hb
      go_wp2_with fail
      refine (hA _).mono ?_
      rintro e w10 ⟨rfl, hb⟩
      replace H_d := hide (H_d.out.then_ hb)
      replace H_m := hide (H_m.out.then_ hb)
      replace H_x := hide (H_x.out.then_ hb)
      replace b_m := hide (b_m.out.keep hb)
      replace b_x := hide (b_x.out.keep hb)
      replace B := hide (Below.then_ B.out hb)
      clear hb
      go_wp2
      go_ret
      exact ⟨rfl, B.out⟩
  · have hk1 := hide (hyN_no hok)
    have hk2 := hide (hyN_no (t := T) (m := D) (d := M) (fun h => hok ⟨h.1, h.2.2, h.2.1⟩))
    clear hok
    go_enter Try.func4, Try.ntmps4
    go_wp2_with fail
    refine ((hyper_p hk1.out).mono fun _ _ h => RetLE.fix h).mono ?_
    rintro e w1 ⟨A_d, c_d, Z_d, rfl, H_d, hb⟩
    replace B := hide (Below.then_ B.out hb)
    clear hb
    replace H_d := hide H_d
    go_wp2_with fail
    refine ((hyper_p hk2.out).mono fun _ _ h => RetLE.fix h).mono ?_
    rintro e w2 ⟨A_c, c_c, Z_c, rfl, H_c, hb⟩
    replace H_d := hide (H_d.out.then_ hb)
    replace B := hide (Below.then_ B.out hb)
    clear hb
    replace H_c := hide H_c
    go_wp2_with fail
    refine (samelist_c (r := hyp (T : Int).toNat (D : Int).toNat (M : Int).toNat) H_d.out H_c.out (Nat.le_refl _) (fun i hi => by omega) (by decide)).mono ?_
    rintro e w3 ⟨rfl, hb⟩
    replace H_d := hide (H_d.out.then_ hb)
    replace H_c := hide (H_c.out.then_ hb)
    replace B := hide (Below.then_ B.out hb)
    clear hb
    go_wp2_with fail
    refine (hA _).mono ?_
    rintro e w4 ⟨rfl, hb⟩
    replace H_d := hide (H_d.out.then_ hb)
    replace H_c := hide (H_c.out.then_ hb)
    replace B := hide (Below.then_ B.out hb)
    clear hb
    go_wp2
    go_ret
    exact ⟨rfl, B.out⟩
end Go.Proofs.Ytonpeagedggakaa
