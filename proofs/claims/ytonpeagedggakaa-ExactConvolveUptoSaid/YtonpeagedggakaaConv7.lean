/-
  ExactConvolve.
-/
import Derived.Test.YtonpeagedggakaaAdds7
import Derived.Laws.AppendOwnNone
namespace Go.Proofs.Ytonpeagedggakaa
open Go.RowKit Go.Builtin

theorem wpList_append_any {nf mf : Nat → Bool} {ops : Array Oper} {rest : List Oper} {o : Oper} {a : Act} {Q : Exit → Act → World → Prop} {w : World} (hgd : o.guard = none) (s x : Operand)
    (ho : o.op = .call { callee := .builtin .append, args := #[s, x], argTypes := #[22, 22] })
    (B L n : Nat) (v : Value) (X : Nat → Rc) (q : Nat → Rat) (hs : a.eval s = v) (hown : OwnQ nf w B L v n X q) (A : Option Addr) (m c : Nat) (Y : Nat → Rc) (p : Nat → Rat) (hx : a.eval x = .slice A m c)
    (hy : LQ mf w w.heap.size L A m c Y p) (hz : A = none → m = 0 ∧ c = 0) (hl : n + m ≤ 1000000000) (hB : B ≤ w.heap.size)
    (h : ∀ v' w', OwnQ (catf nf n mf) w' B L v' (n + m) (catf X n Y) (catf q n p) → w.grownBy w' v.ownBlock → wpList Try.prog ops Q rest (a.put o.dst v') w') : wpList Try.prog ops Q (o :: rest) a w := by
  cases A with
  | some ad =>
    refine wpList_append_rats hgd s x ho B L n v X q hs hown ad m c Y p mf hx (fun i hi => ?_) hy.nums hl hB h
    obtain ⟨ad', e, _, hc⟩ := hy.cells (by omega)
    simp only [Option.some.injEq] at e
    subst e
    exact hc i hi
  | none =>
    obtain ⟨rfl, rfl⟩ := hz rfl
    obtain ⟨i0, hi, _, _, _⟩ := info_parts Try.infoRat
    refine wpList_append_own_none hgd s x 22 ho B 37 i0 3 Try.underlying22 hi v n (cellsQ X n) hs hown.1 hx ?_
    refine h v w (hown.congr (fun i hi => (if_pos hi).symm) (fun i hi => (if_pos hi).symm) (fun i hi e => ?_)) (grown_refl _ _)
    unfold catf at e
    rw [if_pos hi] at e
    exact e
theorem szs_cat (X Y : Nat → Rc) (n : Nat) : ∀ m, szs (catf X n Y) (n + m) = szs X n + szs Y m
  | 0 => by
    rw [Nat.add_zero, szs, Nat.add_zero]
    have h : ∀ k, k ≤ n → szs (catf X n Y) k = szs X k := fun k => by
      induction k with
      | zero => intro _; rfl
      | succ k ih =>
        intro hk
        rw [szs, szs, ih (by omega)]
        have e : catf X n Y k = X k := if_pos (by omega)
        rw [e]
    exact h n (Nat.le_refl _)
  | m + 1 => by
    rw [← Nat.add_assoc, szs, szs, szs_cat X Y n m]
    have e : catf X n Y (n + m) = Y m := by rw [catf, if_neg (by omega), Nat.add_sub_cancel_left]
    rw [e]
    omega
theorem ql_cat (q r : Nat → Rat) (n : Nat) : ∀ m, ql (n + m) (catf q n r) = ql n q ++ ql m r
  | 0 => by
    rw [Nat.add_zero]
    have e : ql 0 r = [] := rfl
    rw [e, List.append_nil]
    exact List.map_congr_left fun i hi => if_pos (List.mem_range.1 hi)
  | m + 1 => by
    rw [← Nat.add_assoc, ql_succ, ql_succ, ql_cat q r n m, List.append_assoc]
    have e : catf q n r (n + m) = r m := by rw [catf, if_neg (by omega), Nat.add_sub_cancel_left]
    rw [e]
theorem dprod_pw {nf : Nat → Bool} {w : World} {Bd L n c : Nat} {A : Option Addr} {X : Nat → Rc} {q : Nat → Rat} (h : LQ nf w Bd L A n c X q) (hs : n + szs X n ≤ 1048576) : dprod (ql n q) < pw 1048577 :=
  Nat.lt_of_le_of_lt (dprod_le h (i := n) (Nat.le_refl _)) (Nat.lt_of_le_of_lt (pw_le' hs) (by rw [show 1048577 = 1048576 + 1 from rfl, pw_add]; exact (Nat.lt_mul_iff_one_lt_right (pw_pos _)).2 (by decide)))
theorem trl_vld {n : Nat} {q : Nat → Rat} (h : ∀ i, i < n → shB (q i) = true) (hn : n ≤ 120) : VldQ (n + 1) (trl (ql n q)) := by
  refine ⟨by omega, fun i _ => trl_nonneg (ql_mem h) i, ?_⟩
  have e := wt_one (ql n q)
  unfold wt at e
  rw [ql_length] at e
  rw [← e]
  exact qs_congr fun i _ => (Rat.one_mul _).symm
theorem trl_mean (n : Nat) (q : Nat → Rat) : qs (mq 1 (trl (ql n q))) (n + 1) = tsum (ql n q) := by
  have e := wt_mean (ql n q)
  unfold wt at e
  rw [ql_length] at e
  rw [← e]
  exact qs_congr fun i _ => by
    simp only [mq]
    rw [if_neg (by decide)]
    grind
theorem trl_vrn (n : Nat) (q : Nat → Rat) : vrn (trl (ql n q)) (n + 1) = tvar (ql n q) := by
  have e := wt_square (ql n q)
  unfold wt at e
  rw [ql_length] at e
  unfold vrn
  rw [trl_mean]
  have e2 : qs (mq 2 (trl (ql n q))) (n + 1) = qs (fun k => (k : Rat) * (k : Rat) * trl (ql n q) k) (n + 1) := qs_congr fun i _ => by
    simp only [mq]
    rw [if_pos trivial]
    grind
  rw [e2, e]
  grind
theorem ex_trl' (n : Nat) (q : Nat → Rat) (k : Nat) : ex (n + 1) (trl (ql n q)) k = trl (ql n q) k := ex_trl (fun _ _ => rfl) k
theorem trK_cases (n : Nat) (q : Nat → Rat) : (trK n q = (0, n + 1) ∧ (∀ i, i < n → shB (q i) = true) ∧ n ≤ 120) ∨ trK n q = (1, 0) ∨ trK n q = (3, 0) := by
  by_cases h : ∀ i, i < n → shB (q i) = true
  · by_cases hn : 121 ≤ n
    · exact .inr (.inr (trK_long h hn))
    · exact .inl ⟨trK_ok h hn, h, by omega⟩
  · refine .inr (.inl ?_)
    unfold trK
    rw [if_neg]
    simp only [decide_eq_true_eq]
    exact h
/-- what is not fine on either side is not fine together -/
theorem trK_cat {na nb : Nat} {a b : Nat → Rat} (h : ¬ (trK na a = (0, na + 1) ∧ trK nb b = (0, nb + 1))) : trK (na + nb) (catf a na b) = (1, 0) ∨ trK (na + nb) (catf a na b) = (3, 0) := by
  rcases trK_cases (na + nb) (catf a na b) with ⟨_, h1, h2⟩ | h1 | h1
  · refine absurd ⟨trK_ok (fun i hi => ?_) (by omega), trK_ok (fun i hi => ?_) (by omega)⟩ h
    · have := h1 i (by omega)
      rw [catf, if_pos hi] at this
      exact this
    · have := h1 (na + i) (by omega)
      rw [catf, if_neg (by omega), Nat.add_sub_cancel_left] at this
      exact this
  · exact .inl h1
  · exact .inr h1
theorem CmH.none (w : World) (Bd : Nat) (X : Nat → Rc) (q : Nat → Rat) : CmH w Bd 0 X q 1048577 :=
  ⟨fun _ => 0, fun _ => 1, fun i hi => by omega, fun i hi => by omega, fun i hi => by omega, by show 1 < pw 1048577; exact Nat.lt_of_lt_of_le (by decide : 1 < pw 1) (pw_le' (by decide))⟩
theorem vl_none (q : Nat → Rat) : vlB 0 q = false := vl_no fun h => by have := h.1.1; omega
theorem trl_cm {w : World} {Bd n c : Nat} {A : Option Addr} {X : Nat → Rc} {q : Nat → Rat} (h : LQ (fun _ => true) w Bd 1048577 A (n + 1) c X (trl (ql n q))) (hsb : ∀ i, i < n → shB (q i) = true) (hD : dprod (ql n q) < pw 1048577) : CmH w Bd (n + 1) X (trl (ql n q)) 1048577 :=
  CmH.nf h (by decide) (by decide) (dprod_pos _) (fun i _ => in_trl (ql_mem hsb) i) hD
set_option maxHeartbeats 16000000 in
set_option maxRecDepth 100000 in
theorem convolve_ok (hA : ∀ w : World, Calls Try.prog 8 #[] w (RetB w (.bool true))) {w : World} {A A' : Option Addr} {na nb ca cb : Nat} {X Y : Nat → Rc} {a b : Nat → Rat} (hx : LQ (fun _ => false) w w.heap.size 1048576 A na ca X a) (hzx : A = none → na = 0 ∧ ca = 0) (hy : LQ (fun _ => false) w w.heap.size 1048576 A' nb cb Y b) (hzy : A' = none → nb = 0 ∧ cb = 0) (hs : (na + szs X na) + (nb + szs Y nb) ≤ 1048576) (ha : ∀ i, i < na → shB (a i) = true) (hb : ∀ i, i < nb → shB (b i) = true) (h1 : na ≤ 120) (h2 : nb ≤ 120) : Calls Try.prog 3 #[.slice A na ca, .slice A' nb cb] w (RetB w (.bool true)) := by
  have hka := hide (trK_ok ha (by omega))
  have hkb := hide (trK_ok hb (by omega))
  have hsa := hide ha
  have hsb := hide hb
  have hva := hide (vl_yes (trl_vld ha h1))
  have hvb := hide (vl_yes (trl_vld hb h2))
  have hVa := hide (trl_vld ha h1)
  have hVb := hide (trl_vld hb h2)
  have hDa := hide (dprod_pw hx (by omega))
  have hDb := hide (dprod_pw hy (by omega))
  have hcs := hide (show ∀ i, i < na + nb → shB (catf a na b i) = true from fun i hi => by
    unfold catf
    split
    · exact ha i (by assumption)
    · exact hb _ (by omega))
  have hqc := hide (ql_cat a b na nb)
  clear ha hb
  by_cases hlong : 121 ≤ na + nb
  · have B := hide (Below.refl w.heap.size w)
    have H_l := hide hx
    have H_m := hide hy
    have hcap := hx.cap
    have hcb := hx.cbig
    have hcap' := hy.cap
    have hcb' := hy.cbig
    have hsx := hide (show na + szs X na ≤ 1048576 by omega)
    have hsy := hide (show nb + szs Y nb ≤ 1048576 by omega)
    have hna : na ≤ 1048576 := by omega
    have hnb : nb ≤ 1048576 := by omega
    have hsc := hide (show (na + nb) + szs (catf X na Y) (na + nb) ≤ 1048576 by rw [szs_cat]; omega)
    have hzxh := hide hzx
    have hzyh := hide hzy
    clear hx hy hs hzx hzy
    have hkc := hide (trK_long hcs.out hlong)
    have hkd := hide (show cvK true true (na + 1) (nb + 1) = (5, 0) by
      simp only [cvK, and_self, if_true]
      rw [if_pos (by omega)])
    have d0 : decide ((121 : Int) - (nb : Int) ≤ (na : Int)) = true := by simp; omega
    clear hlong
    go_enter Try.func3, Try.ntmps3
    go_wp2_with fail
    refine ((trials_p H_l.out hsx.out (Nat.le_refl _) hka.out).mono fun _ _ h => RetLE.fix h).mono ?_
    rintro e w1 ⟨A_a, c_a, Z_a, rfl, H_a, hb⟩
    replace H_l := hide (H_l.out.then_ hb)
    replace H_m := hide (H_m.out.then_ hb)
    replace B := hide (Below.then_ B.out hb)
    clear hb
    replace H_a := hide H_a
    go_wp2_with fail
    refine ((trials_p H_m.out hsy.out (Nat.le_refl _) hkb.out).mono fun _ _ h => RetLE.fix h).mono ?_
    rintro e w2 ⟨A_b, c_b, Z_b, rfl, H_b, hb⟩
    replace H_l := hide (H_l.out.then_ hb)
    replace H_m := hide (H_m.out.then_ hb)
    replace H_a := hide (H_a.out.then_ hb)
    replace B := hide (Below.then_ B.out hb)
    clear hb
    replace H_b := hide H_b
    have hO0 := hide (OwnQ.empty (fun _ => false) w2 (B := w2.heap.size) (L := 1048576) (Nat.le_refl _) (fun _ => zeroRc) (fun _ => 0))
    have hal : Below w2.heap.size w2 (w2.alloc (.cells #[] 37)) := (Below.al_ (Below.refl _ _) (.cells #[] 37))
    have H_l0 := hide (H_l.out.then_ hal)
    go_wp2_with (first | (at_builtin; refine wpList_append_any rfl (.tmp 24) (.tmp 25) rfl w2.heap.size 1048576 0 _ _ _ rfl hO0.out A na ca X a rfl H_l0.out hzxh.out (by omega) hal.size ?_; intro v1 w3 hO1 hg1; have BV := hide (hO0.out.below hg1 hal hal.size); have hO1' := hide (show OwnQ (fun _ => false) w3 w2.heap.size 1048576 v1 na X a by (have h := hO1.congr (Y := X) (r := a) (mf := fun _ => false) (fun i _ => by unfold catf; rw [if_neg (by omega)]; rfl) (fun i _ => by unfold catf; rw [if_neg (by omega)]; rfl) (fun _ _ e => by cases e); rwa [Nat.zero_add] at h)); clear hO1 hg1; have H_m0 := hide (H_m.out.then_ BV.out)) | (at_builtin; refine wpList_append_any rfl (.tmp 26) (.tmp 27) rfl w2.heap.size 1048576 na _ X a rfl hO1'.out A' nb cb Y b rfl H_m0.out hzyh.out (by omega) BV.out.size ?_; intro v2 w4 hO2 hg2; replace BV := hide (hO1'.out.below hg2 BV.out BV.out.size); clear hg2))
    clear hO0 hal H_l0 hO1' H_m0
    obtain ⟨A5, c5, rfl, H_c⟩ := hO2.rd
    replace H_c := hide H_c.raw
    have hcc := H_c.out.cap
    have hcc' := H_c.out.cbig
    clear hO2
    have hb := BV.out
    replace H_a := hide (H_a.out.then_ hb)
    replace H_b := hide (H_b.out.then_ hb)
    replace B := hide (Below.then_ B.out hb)
    clear hb BV H_l H_m
    go_wp2_with fail
    refine ((trials_p H_c.out hsc.out (Nat.le_refl _) hkc.out).mono fun _ _ h => RetLE.fix h).mono ?_
    rintro e w5 ⟨A_d, c_d, Z_d, rfl, H_d, hb⟩
    replace H_a := hide (H_a.out.then_ hb)
    replace H_b := hide (H_b.out.then_ hb)
    replace H_c := hide (H_c.out.then_ hb)
    replace B := hide (Below.then_ B.out hb)
    clear hb
    replace H_d := hide H_d
    clear H_c
    go_wp2_with fail
    refine ((convolve_p (K := 1048577) H_a.out H_b.out (by decide) (Nat.le_refl _) (trl_cm H_a.out hsa.out hDa.out) (trl_cm H_b.out hsb.out hDb.out) (by decide) hva.out hvb.out hkd.out).mono fun _ _ h => RetLE.fix h).mono ?_
    rintro e w6 ⟨A_e, c_e, Z_e, rfl, H_e, hb⟩
    replace H_a := hide (H_a.out.then_ hb)
    replace H_b := hide (H_b.out.then_ hb)
    replace H_d := hide (H_d.out.then_ hb)
    replace B := hide (Below.then_ B.out hb)
    clear hb
    replace H_e := hide H_e
    go_wp2_with fail
    refine (hA _).mono ?_
    rintro e w7 ⟨rfl, hb⟩
    replace H_a := hide (H_a.out.then_ hb)
    replace H_b := hide (H_b.out.then_ hb)
    replace H_d := hide (H_d.out.then_ hb)
    replace H_e := hide (H_e.out.then_ hb)
    replace B := hide (Below.then_ B.out hb)
    clear hb
    go_wp2
    go_ret
    exact ⟨rfl, B.out⟩
  · have hx' := hx
    have hy' := hy
    have hs' := hs
    have B := hide (Below.refl w.heap.size w)
    have H_l := hide hx
    have H_m := hide hy
    have hcap := hx.cap
    have hcb := hx.cbig
    have hcap' := hy.cap
    have hcb' := hy.cbig
    have hsx := hide (show na + szs X na ≤ 1048576 by omega)
    have hsy := hide (show nb + szs Y nb ≤ 1048576 by omega)
    have hna : na ≤ 1048576 := by omega
    have hnb : nb ≤ 1048576 := by omega
    have hsc := hide (show (na + nb) + szs (catf X na Y) (na + nb) ≤ 1048576 by rw [szs_cat]; omega)
    have hzxh := hide hzx
    have hzyh := hide hzy
    clear hx hy hs hzx hzy
    have hkc := hide (trK_ok hcs.out hlong)
    have hkd := hide (show cvK true true (na + 1) (nb + 1) = (0, na + nb + 1) by
      simp only [cvK, and_self, if_true]
      rw [if_neg (by omega)]
      congr 1
      omega)
    have d0 : decide ((121 : Int) - (nb : Int) ≤ (na : Int)) = false := by simp; omega
    have hDc := hide (show dprod (ql (na + nb) (catf a na b)) < pw 1048577 by
      rw [hqc.out, dprod_append]
      have e1 := dprod_le hx' (i := na) (Nat.le_refl _)
      have e2 := dprod_le hy' (i := nb) (Nat.le_refl _)
      refine Nat.lt_of_le_of_lt (Nat.mul_le_mul e1 e2) ?_
      rw [← pw_add]
      exact Nat.lt_of_le_of_lt (pw_le' (by have := hsx.out; have := hsy.out; have := hs'; omega)) (by rw [show 1048577 = 1048576 + 1 from rfl, pw_add]; exact (Nat.lt_mul_iff_one_lt_right (pw_pos _)).2 (by decide)))
    clear hx' hy' hs'
    have hsmall : na + nb ≤ 120 := by omega
    clear hlong
    go_enter Try.func3, Try.ntmps3
    go_wp2_with fail
    refine ((trials_p H_l.out hsx.out (Nat.le_refl _) hka.out).mono fun _ _ h => RetLE.fix h).mono ?_
    rintro e w1 ⟨A_a, c_a, Z_a, rfl, H_a, hb⟩
    replace H_l := hide (H_l.out.then_ hb)
    replace H_m := hide (H_m.out.then_ hb)
    replace B := hide (Below.then_ B.out hb)
    clear hb
    replace H_a := hide H_a
    go_wp2_with fail
    refine ((trials_p H_m.out hsy.out (Nat.le_refl _) hkb.out).mono fun _ _ h => RetLE.fix h).mono ?_
    rintro e w2 ⟨A_b, c_b, Z_b, rfl, H_b, hb⟩
    replace H_l := hide (H_l.out.then_ hb)
    replace H_m := hide (H_m.out.then_ hb)
    replace H_a := hide (H_a.out.then_ hb)
    replace B := hide (Below.then_ B.out hb)
    clear hb
    replace H_b := hide H_b
    have hO0 := hide (OwnQ.empty (fun _ => false) w2 (B := w2.heap.size) (L := 1048576) (Nat.le_refl _) (fun _ => zeroRc) (fun _ => 0))
    have hal : Below w2.heap.size w2 (w2.alloc (.cells #[] 37)) := (Below.al_ (Below.refl _ _) (.cells #[] 37))
    have H_l0 := hide (H_l.out.then_ hal)
    go_wp2_with (first | (at_builtin; refine wpList_append_any rfl (.tmp 24) (.tmp 25) rfl w2.heap.size 1048576 0 _ _ _ rfl hO0.out A na ca X a rfl H_l0.out hzxh.out (by omega) hal.size ?_; intro v1 w3 hO1 hg1; have BV := hide (hO0.out.below hg1 hal hal.size); have hO1' := hide (show OwnQ (fun _ => false) w3 w2.heap.size 1048576 v1 na X a by (have h := hO1.congr (Y := X) (r := a) (mf := fun _ => false) (fun i _ => by unfold catf; rw [if_neg (by omega)]; rfl) (fun i _ => by unfold catf; rw [if_neg (by omega)]; rfl) (fun _ _ e => by cases e); rwa [Nat.zero_add] at h)); clear hO1 hg1; have H_m0 := hide (H_m.out.then_ BV.out)) | (at_builtin; refine wpList_append_any rfl (.tmp 26) (.tmp 27) rfl w2.heap.size 1048576 na _ X a rfl hO1'.out A' nb cb Y b rfl H_m0.out hzyh.out (by omega) BV.out.size ?_; intro v2 w4 hO2 hg2; replace BV := hide (hO1'.out.below hg2 BV.out BV.out.size); clear hg2))
    clear hO0 hal H_l0 hO1' H_m0
    obtain ⟨A5, c5, rfl, H_c⟩ := hO2.rd
    replace H_c := hide H_c.raw
    have hcc := H_c.out.cap
    have hcc' := H_c.out.cbig
    clear hO2
    have hb := BV.out
    replace H_a := hide (H_a.out.then_ hb)
    replace H_b := hide (H_b.out.then_ hb)
    replace B := hide (Below.then_ B.out hb)
    clear hb BV H_l H_m
    go_wp2_with fail
    refine ((trials_p H_c.out hsc.out (Nat.le_refl _) hkc.out).mono fun _ _ h => RetLE.fix h).mono ?_
    rintro e w5 ⟨A_d, c_d, Z_d, rfl, H_d, hb⟩
    replace H_a := hide (H_a.out.then_ hb)
    replace H_b := hide (H_b.out.then_ hb)
    replace H_c := hide (H_c.out.then_ hb)
    replace B := hide (Below.then_ B.out hb)
    clear hb
    replace H_d := hide H_d
    clear H_c
    go_wp2_with fail
    refine ((convolve_p (K := 1048577) H_a.out H_b.out (by decide) (Nat.le_refl _) (trl_cm H_a.out hsa.out hDa.out) (trl_cm H_b.out hsb.out hDb.out) (by decide) hva.out hvb.out hkd.out).mono fun _ _ h => RetLE.fix h).mono ?_
    rintro e w6 ⟨A_e, c_e, Z_e, rfl, H_e, hb⟩
    replace H_a := hide (H_a.out.then_ hb)
    replace H_b := hide (H_b.out.then_ hb)
    replace H_d := hide (H_d.out.then_ hb)
    replace B := hide (Below.then_ B.out hb)
    clear hb
    replace H_e := hide H_e
    go_wp2_with fail
    refine (valid_p H_d.out (by decide) (Nat.le_refl _) (trl_cm H_d.out hcs.out hDc.out) (by decide) (vl_yes (trl_vld hcs.out (by omega)))).mono ?_
    rintro e w7 ⟨rfl, hb⟩
    replace H_a := hide (H_a.out.then_ hb)
    replace H_b := hide (H_b.out.then_ hb)
    replace H_d := hide (H_d.out.then_ hb)
    replace H_e := hide (H_e.out.then_ hb)
    replace B := hide (Below.then_ B.out hb)
    clear hb
    go_wp2_with fail
    refine (samelist_c H_d.out H_e.out (Nat.le_refl _) (fun i _ => by rw [hqc.out, trl_append]; exact (cv_congr (fun k _ => ex_trl' na a k) (fun k _ => ex_trl' nb b k)).symm) (by omega)).mono ?_
    rintro e w8 ⟨rfl, hb⟩
    replace H_a := hide (H_a.out.then_ hb)
    replace H_b := hide (H_b.out.then_ hb)
    replace H_d := hide (H_d.out.then_ hb)
    replace H_e := hide (H_e.out.then_ hb)
    replace B := hide (Below.then_ B.out hb)
    clear hb
    go_wp2_with fail
    refine (adds_true (L := 1048577) (K := 1048577) (by decide) (by decide) (Nat.le_refl _) H_a.out (trl_cm H_a.out hsa.out hDa.out) hVa.out H_b.out (trl_cm H_b.out hsb.out hDb.out) hVb.out H_d.out (trl_cm H_d.out hcs.out hDc.out) (trl_vld hcs.out (by omega)) (by rw [trl_mean, trl_mean, trl_mean, hqc.out, tsum_append]) (by rw [trl_vrn, trl_vrn, trl_vrn, hqc.out, tvar_append])).mono ?_
    rintro e w9 ⟨rfl, hb⟩
    replace H_a := hide (H_a.out.then_ hb)
    replace H_b := hide (H_b.out.then_ hb)
    replace H_d := hide (H_d.out.then_ hb)
    replace H_e := hide (H_e.out.then_ hb)
    replace B := hide (Below.then_ B.out hb)
    clear hb
    go_wp2_with fail
    refine (hA _).mono ?_
    rintro e w10 ⟨rfl, hb⟩
    replace H_a := hide (H_a.out.then_ hb)
    replace H_b := hide (H_b.out.then_ hb)
    replace H_d := hide (H_d.out.then_ hb)
    replace H_e := hide (H_e.out.then_ hb)
    replace B := hide (Below.then_ B.out hb)
    clear hb
    go_wp2
    go_ret
    exact ⟨rfl, B.out⟩
set_option maxHeartbeats 16000000 in
set_option maxRecDepth 100000 in
theorem convolve_bad (hA : ∀ w : World, Calls Try.prog 8 #[] w (RetB w (.bool true))) {w : World} {A A' : Option Addr} {na nb ca cb : Nat} {X Y : Nat → Rc} {a b : Nat → Rat} (hx : LQ (fun _ => false) w w.heap.size 1048576 A na ca X a) (hzx : A = none → na = 0 ∧ ca = 0) (hy : LQ (fun _ => false) w w.heap.size 1048576 A' nb cb Y b) (hzy : A' = none → nb = 0 ∧ cb = 0) (hs : (na + szs X na) + (nb + szs Y nb) ≤ 1048576) (ha : trK na a = (1, 0) ∨ trK na a = (3, 0)) : Calls Try.prog 3 #[.slice A na ca, .slice A' nb cb] w (RetB w (.bool true)) := by
  have B := hide (Below.refl w.heap.size w)
  have H_l := hide hx
  have H_m := hide hy
  have hcap := hx.cap
  have hcb := hx.cbig
  have hcap' := hy.cap
  have hcb' := hy.cbig
  have hsx := hide (show na + szs X na ≤ 1048576 by omega)
  have hsy := hide (show nb + szs Y nb ≤ 1048576 by omega)
  have hna : na ≤ 1048576 := by omega
  have hnb : nb ≤ 1048576 := by omega
  have hsc := hide (show (na + nb) + szs (catf X na Y) (na + nb) ≤ 1048576 by rw [szs_cat]; omega)
  have hzxh := hide hzx
  have hzyh := hide hzy
  have hDb := hide (dprod_pw hy (by omega))
  clear hx hy hs hzx hzy
  obtain ⟨ka, hka, hk0⟩ : ∃ ka : Int, trK na a = (ka, 0) ∧ (ka != 0) = true := by
    rcases ha with h | h
    · exact ⟨1, h, by decide⟩
    · exact ⟨3, h, by decide⟩
  obtain ⟨kb, Nb, hkb⟩ : ∃ kb Nb, trK nb b = (kb, Nb) := ⟨_, _, rfl⟩
  obtain ⟨kc, hkc, hc0⟩ : ∃ kc : Int, trK (na + nb) (catf a na b) = (kc, 0) ∧ (kc != 0) = true := by
    rcases trK_cat (na := na) (nb := nb) (a := a) (b := b) (fun h => by rw [h.1] at hka; cases hka) with h | h
    · exact ⟨1, h, by decide⟩
    · exact ⟨3, h, by decide⟩
  replace hka := hide hka
  replace hkb := hide hkb
  replace hkc := hide hkc
  clear ha
  go_enter Try.func3, Try.ntmps3
  go_wp2_with fail
  refine ((trials_p H_l.out hsx.out (Nat.le_refl _) hka.out).mono fun _ _ h => RetLE.fix h).mono ?_
  rintro e w1 ⟨A_a, c_a, Z_a, rfl, H_a, hb⟩
  replace H_l := hide (H_l.out.then_ hb)
  replace H_m := hide (H_m.out.then_ hb)
  replace B := hide (Below.then_ B.out hb)
  clear hb
  replace H_a := hide H_a
  go_wp2_with fail
  refine ((trials_p H_m.out hsy.out (Nat.le_refl _) hkb.out).mono fun _ _ h => RetLE.fix h).mono ?_
  rintro e w2 ⟨A_b, c_b, Z_b, rfl, H_b, hb⟩
  replace H_l := hide (H_l.out.then_ hb)
  replace H_m := hide (H_m.out.then_ hb)
  replace H_a := hide (H_a.out.then_ hb)
  replace B := hide (Below.then_ B.out hb)
  clear hb
  replace H_b := hide H_b
  have hO0 := hide (OwnQ.empty (fun _ => false) w2 (B := w2.heap.size) (L := 1048576) (Nat.le_refl _) (fun _ => zeroRc) (fun _ => 0))
  have hal : Below w2.heap.size w2 (w2.alloc (.cells #[] 37)) := (Below.al_ (Below.refl _ _) (.cells #[] 37))
  have H_l0 := hide (H_l.out.then_ hal)
  go_wp2_with (first | (at_builtin; refine wpList_append_any rfl (.tmp 24) (.tmp 25) rfl w2.heap.size 1048576 0 _ _ _ rfl hO0.out A na ca X a rfl H_l0.out hzxh.out (by omega) hal.size ?_; intro v1 w3 hO1 hg1; have BV := hide (hO0.out.below hg1 hal hal.size); have hO1' := hide (show OwnQ (fun _ => false) w3 w2.heap.size 1048576 v1 na X a by (have h := hO1.congr (Y := X) (r := a) (mf := fun _ => false) (fun i _ => by unfold catf; rw [if_neg (by omega)]; rfl) (fun i _ => by unfold catf; rw [if_neg (by omega)]; rfl) (fun _ _ e => by cases e); rwa [Nat.zero_add] at h)); clear hO1 hg1; have H_m0 := hide (H_m.out.then_ BV.out)) | (at_builtin; refine wpList_append_any rfl (.tmp 26) (.tmp 27) rfl w2.heap.size 1048576 na _ X a rfl hO1'.out A' nb cb Y b rfl H_m0.out hzyh.out (by omega) BV.out.size ?_; intro v2 w4 hO2 hg2; replace BV := hide (hO1'.out.below hg2 BV.out BV.out.size); clear hg2))
  clear hO0 hal H_l0 hO1' H_m0
  obtain ⟨A5, c5, rfl, H_c⟩ := hO2.rd
  replace H_c := hide H_c.raw
  have hcc := H_c.out.cap
  have hcc' := H_c.out.cbig
  clear hO2
  have hb := BV.out
  replace H_a := hide (H_a.out.then_ hb)
  replace H_b := hide (H_b.out.then_ hb)
  replace B := hide (Below.then_ B.out hb)
  clear hb BV H_l H_m
  go_wp2_with fail
  refine ((trials_p H_c.out hsc.out (Nat.le_refl _) hkc.out).mono fun _ _ h => RetLE.fix h).mono ?_
  rintro e w5 ⟨A_d, c_d, Z_d, rfl, H_d, hb⟩
  replace H_a := hide (H_a.out.then_ hb)
  replace H_b := hide (H_b.out.then_ hb)
  replace H_c := hide (H_c.out.then_ hb)
  replace B := hide (Below.then_ B.out hb)
  clear hb
  replace H_d := hide H_d
  clear H_c
  have hrb : ∃ rb, vlB Nb (trl (ql nb b)) = rb := ⟨_, rfl⟩
  obtain ⟨rb, hrb⟩ := hrb
  replace hrb := hide hrb
  have hD2 := hide (show CmH w5 w5.heap.size Nb Z_b (trl (ql nb b)) 1048577 by
    rcases trK_cases nb b with ⟨h, h2, _⟩ | h | h
    · rw [hkb.out] at h; obtain ⟨rfl, rfl⟩ := Prod.mk.inj h; exact trl_cm H_b.out h2 hDb.out
    · rw [hkb.out] at h; obtain ⟨rfl, rfl⟩ := Prod.mk.inj h; exact CmH.none _ _ _ _
    · rw [hkb.out] at h; obtain ⟨rfl, rfl⟩ := Prod.mk.inj h; exact CmH.none _ _ _ _)
  go_wp2_with fail
  refine ((convolve_p (K := 1048577) (ra := false) (rb := rb) (k := 1) (n := 0) H_a.out H_b.out (by decide) (Nat.le_refl _) (CmH.none _ _ _ _) hD2.out (by decide) (vl_none _) hrb.out (by simp [cvK])).mono fun _ _ h => RetLE.fix h).mono ?_
  rintro e w6 ⟨A_e, c_e, Z_e, rfl, H_e, hb⟩
  replace H_a := hide (H_a.out.then_ hb)
  replace H_b := hide (H_b.out.then_ hb)
  replace H_d := hide (H_d.out.then_ hb)
  replace B := hide (Below.then_ B.out hb)
  clear hb
  replace H_e := hide H_e
  go_wp2_with fail
  refine (hA _).mono ?_
  rintro e w7 ⟨rfl, hb⟩
  replace H_a := hide (H_a.out.then_ hb)
  replace H_b := hide (H_b.out.then_ hb)
  replace H_d := hide (H_d.out.then_ hb)
  replace H_e := hide (H_e.out.then_ hb)
  replace B := hide (Below.then_ B.out hb)
  clear hb
  go_wp2
  go_ret
  exact ⟨rfl, B.out⟩
set_option maxHeartbeats 16000000 in
set_option maxRecDepth 100000 in
theorem convolve_bad2 (hA : ∀ w : World, Calls Try.prog 8 #[] w (RetB w (.bool true))) {w : World} {A A' : Option Addr} {na nb ca cb : Nat} {X Y : Nat → Rc} {a b : Nat → Rat} (hx : LQ (fun _ => false) w w.heap.size 1048576 A na ca X a) (hzx : A = none → na = 0 ∧ ca = 0) (hy : LQ (fun _ => false) w w.heap.size 1048576 A' nb cb Y b) (hzy : A' = none → nb = 0 ∧ cb = 0) (hs : (na + szs X na) + (nb + szs Y nb) ≤ 1048576) (ha : ∀ i, i < na → shB (a i) = true) (h1 : na ≤ 120) (hb : trK nb b = (1, 0) ∨ trK nb b = (3, 0)) : Calls Try.prog 3 #[.slice A na ca, .slice A' nb cb] w (RetB w (.bool true)) := by
  have B := hide (Below.refl w.heap.size w)
  have H_l := hide hx
  have H_m := hide hy
  have hcap := hx.cap
  have hcb := hx.cbig
  have hcap' := hy.cap
  have hcb' := hy.cbig
  have hsx := hide (show na + szs X na ≤ 1048576 by omega)
  have hsy := hide (show nb + szs Y nb ≤ 1048576 by omega)
  have hna : na ≤ 1048576 := by omega
  have hnb : nb ≤ 1048576 := by omega
  have hsc := hide (show (na + nb) + szs (catf X na Y) (na + nb) ≤ 1048576 by rw [szs_cat]; omega)
  have hzxh := hide hzx
  have hzyh := hide hzy
  clear hx hy hs hzx hzy
  have hka := hide (trK_ok ha (by omega))
  have hsa := hide ha
  have hva := hide (vl_yes (trl_vld ha h1))
  have hDa := hide (dprod_pw H_l.out hsx.out)
  obtain ⟨kb, hkb, hk0⟩ : ∃ kb : Int, trK nb b = (kb, 0) ∧ (kb != 0) = true := by
    rcases hb with h | h
    · exact ⟨1, h, by decide⟩
    · exact ⟨3, h, by decide⟩
  obtain ⟨kc, hkc, hc0⟩ : ∃ kc : Int, trK (na + nb) (catf a na b) = (kc, 0) ∧ (kc != 0) = true := by
    rcases trK_cat (na := na) (nb := nb) (a := a) (b := b) (fun h => by rw [h.2] at hkb; cases hkb) with h | h
    · exact ⟨1, h, by decide⟩
    · exact ⟨3, h, by decide⟩
  replace hkb := hide hkb
  replace hkc := hide hkc
  clear ha hb
  go_enter Try.func3, Try.ntmps3
  go_wp2_with fail
  refine ((trials_p H_l.out hsx.out (Nat.le_refl _) hka.out).mono fun _ _ h => RetLE.fix h).mono ?_
  rintro e w1 ⟨A_a, c_a, Z_a, rfl, H_a, hb⟩
  replace H_l := hide (H_l.out.then_ hb)
  replace H_m := hide (H_m.out.then_ hb)
  replace B := hide (Below.then_ B.out hb)
  clear hb
  replace H_a := hide H_a
  go_wp2_with fail
  refine ((trials_p H_m.out hsy.out (Nat.le_refl _) hkb.out).mono fun _ _ h => RetLE.fix h).mono ?_
  rintro e w2 ⟨A_b, c_b, Z_b, rfl, H_b, hb⟩
  replace H_l := hide (H_l.out.then_ hb)
  replace H_m := hide (H_m.out.then_ hb)
  replace H_a := hide (H_a.out.then_ hb)
  replace B := hide (Below.then_ B.out hb)
  clear hb
  replace H_b := hide H_b
  have hO0 := hide (OwnQ.empty (fun _ => false) w2 (B := w2.heap.size) (L := 1048576) (Nat.le_refl _) (fun _ => zeroRc) (fun _ => 0))
  have hal : Below w2.heap.size w2 (w2.alloc (.cells #[] 37)) := (Below.al_ (Below.refl _ _) (.cells #[] 37))
  have H_l0 := hide (H_l.out.then_ hal)
  go_wp2_with (first | (at_builtin; refine wpList_append_any rfl (.tmp 24) (.tmp 25) rfl w2.heap.size 1048576 0 _ _ _ rfl hO0.out A na ca X a rfl H_l0.out hzxh.out (by omega) hal.size ?_; intro v1 w3 hO1 hg1; have BV := hide (hO0.out.below hg1 hal hal.size); have hO1' := hide (show OwnQ (fun _ => false) w3 w2.heap.size 1048576 v1 na X a by (have h := hO1.congr (Y := X) (r := a) (mf := fun _ => false) (fun i _ => by unfold catf; rw [if_neg (by omega)]; rfl) (fun i _ => by unfold catf; rw [if_neg (by omega)]; rfl) (fun _ _ e => by cases e); rwa [Nat.zero_add] at h)); clear hO1 hg1; have H_m0 := hide (H_m.out.then_ BV.out)) | (at_builtin; refine wpList_append_any rfl (.tmp 26) (.tmp 27) rfl w2.heap.size 1048576 na _ X a rfl hO1'.out A' nb cb Y b rfl H_m0.out hzyh.out (by omega) BV.out.size ?_; intro v2 w4 hO2 hg2; replace BV := hide (hO1'.out.below hg2 BV.out BV.out.size); clear hg2))
  clear hO0 hal H_l0 hO1' H_m0
  obtain ⟨A5, c5, rfl, H_c⟩ := hO2.rd
  replace H_c := hide H_c.raw
  have hcc := H_c.out.cap
  have hcc' := H_c.out.cbig
  clear hO2
  have hb := BV.out
  replace H_a := hide (H_a.out.then_ hb)
  replace H_b := hide (H_b.out.then_ hb)
  replace B := hide (Below.then_ B.out hb)
  clear hb BV H_l H_m
  go_wp2_with fail
  refine ((trials_p H_c.out hsc.out (Nat.le_refl _) hkc.out).mono fun _ _ h => RetLE.fix h).mono ?_
  rintro e w5 ⟨A_d, c_d, Z_d, rfl, H_d, hb⟩
  replace H_a := hide (H_a.out.then_ hb)
  replace H_b := hide (H_b.out.then_ hb)
  replace H_c := hide (H_c.out.then_ hb)
  replace B := hide (Below.then_ B.out hb)
  clear hb
  replace H_d := hide H_d
  clear H_c
  go_wp2_with fail
  refine ((convolve_p (K := 1048577) (ra := true) (rb := false) (k := 1) (n := 0) H_a.out H_b.out (by decide) (Nat.le_refl _) (trl_cm H_a.out hsa.out hDa.out) (CmH.none _ _ _ _) (by decide) hva.out (vl_none _) (by simp [cvK])).mono fun _ _ h => RetLE.fix h).mono ?_
  rintro e w6 ⟨A_e, c_e, Z_e, rfl, H_e, hb⟩
  replace H_a := hide (H_a.out.then_ hb)
  replace H_b := hide (H_b.out.then_ hb)
  replace H_d := hide (H_d.out.then_ hb)
  replace B := hide (Below.then_ B.out hb)
  clear hb
  replace H_e := hide H_e
  go_wp2_with fail
  refine (hA _).mono ?_
  rintro e w7 ⟨rfl, hb⟩
  replace H_a := hide (H_a.out.then_ hb)
  replace H_b := hide (H_b.out.then_ hb)
  replace H_d := hide (H_d.out.then_ hb)
  replace H_e := hide (H_e.out.then_ hb)
  replace B := hide (Below.then_ B.out hb)
  clear hb
  go_wp2
  go_ret
  exact ⟨rfl, B.out⟩
theorem convolve_walk (hA : ∀ w : World, Calls Try.prog 8 #[] w (RetB w (.bool true))) {w : World} {A A' : Option Addr} {na nb ca cb : Nat} {X Y : Nat → Rc} {a b : Nat → Rat} (hx : LQ (fun _ => false) w w.heap.size 1048576 A na ca X a) (hzx : A = none → na = 0 ∧ ca = 0) (hy : LQ (fun _ => false) w w.heap.size 1048576 A' nb cb Y b) (hzy : A' = none → nb = 0 ∧ cb = 0) (hs : (na + szs X na) + (nb + szs Y nb) ≤ 1048576) : Calls Try.prog 3 #[.slice A na ca, .slice A' nb cb] w (RetB w (.bool true)) := by
  rcases trK_cases na a with ⟨_, h2, h3⟩ | h | h
  · rcases trK_cases nb b with ⟨_, k2, k3⟩ | k | k
    · exact convolve_ok hA hx hzx hy hzy hs h2 k2 h3 k3
    · exact convolve_bad2 hA hx hzx hy hzy hs h2 h3 (.inl k)
    · exact convolve_bad2 hA hx hzx hy hzy hs h2 h3 (.inr k)
  · exact convolve_bad hA hx hzx hy hzy hs (.inl h)
  · exact convolve_bad hA hx hzx hy hzy hs (.inr h)
end Go.Proofs.Ytonpeagedggakaa
