/-
  DrawsRanges.
-/
import Derived.Test.YtdihgmbldnekhaaDrw10
import Derived.Test.YtdihgmbldnekhaaDrw3
import Derived.Test.YtdihgmbldnekhaaDrw4
namespace Go.Proofs.Ytdihgmbldnekhaa
open Go.RowKit

theorem chq_ge {s : Nat} : 0 ≤ chQ s := by
  unfold chQ
  rw [Rat.divInt_eq_div]
  have h1 : (0 : Rat) ≤ ((dup s : Int) : Rat) := by rw [Rat.intCast_natCast]; exact Rat.natCast_nonneg
  have h2 : ((4294967296 : Int) : Rat) = 4294967296 := rfl
  rw [h2]
  generalize ((dup s : Int) : Rat) = x at h1 ⊢
  grind
theorem chq_lt {s : Nat} : chQ s < 1 := by
  unfold chQ
  rw [Rat.divInt_eq_div]
  have h0 := dup_lt s
  have h1 : ((dup s : Int) : Rat) < ((4294967296 : Int) : Rat) := Rat.intCast_lt_intCast.2 (by omega)
  have h2 : ((4294967296 : Int) : Rat) = 4294967296 := rfl
  rw [h2] at h1 ⊢
  generalize ((dup s : Int) : Rat) = x at h1 ⊢
  grind
theorem chq_yes {s : Nat} {p : Rat} (h : chB s p = true) : chQ s < p := by
  unfold chB at h
  exact cmp_lt.1 (of_decide_eq_true h)
theorem chq_no {s : Nat} {p : Rat} (h : chB s p = false) : p ≤ chQ s := by
  unfold chB at h
  have := of_decide_eq_false h
  rw [cmp_lt] at this
  exact Rat.not_lt.1 this
theorem sgn_gt {p : Rat} (h : 0 < p) : ¬ sgn p.num ≤ 0 := by
  intro h2
  have h3 : p ≤ 0 := cmp_le.1 (by rw [show p - 0 = p by grind]; exact h2)
  exact absurd h (Rat.not_lt.2 h3)
theorem bw_mono {s m n : Nat} (h1 : 1 ≤ n) (h2 : n ≤ m) (h3 : m ≤ 2147483648) : bwN s (n : Int) ≤ bwN s (m : Int) := by
  rw [bwN_nat h1 (by omega), bwN_nat (by omega) h3]
  exact Nat.div_le_div_right (Nat.mul_le_mul_left _ h2)
theorem of11d (w : World) : Calls Try.prog 38 #[.int .i64 1, .int .i64 1] w (RetNB w 2 1 true) := of_q (x := 1) (y := 1) (by decide) (by decide) (by decide) (by decide) (by decide +kernel) (by decide)
set_option maxHeartbeats 16000000 in
set_option maxRecDepth 100000 in
theorem ranges_low (hA : ∀ w : World, Calls Try.prog 27 #[] w (RetB w (.bool true))) {w : World} {d : Nat} {p q : Rc} {r u : Rat} (hd : d < 18446744073709551616) {n m : Int} (hn : I64 n) (hm : I64 m) (h : n < 1) (h_p : Rq w w.heap.size 1048576 p r) (h_q : Rq w w.heap.size 1048576 q u) : Calls Try.prog 8 #[.int .u64 (d : Int), .int .i64 n, .int .i64 m, .agg #[.bool p.s, .slice p.A p.n p.c, .slice p.B p.m p.d], .agg #[.bool q.s, .slice q.A q.n q.c, .slice q.B q.m q.d]] w (RetB w (.bool true)) := by
  obtain ⟨W, hW⟩ : ∃ W, W = ((w.alloc (.cells #[.bool p.s, .slice p.A p.n p.c, .slice p.B p.m p.d] 27)).alloc (.cells #[.bool q.s, .slice q.A q.n q.c, .slice q.B q.m q.d] 27)) := ⟨_, rfl⟩
  have b_p := hide (show Box3 W (w.heap.size) (.bool p.s) (.slice p.A p.n p.c) (.slice p.B p.m p.d) by rw [hW]; exact ((Box3.new w _ _ _ rfl).al _))
  have b_q := hide (show Box3 W (w.heap.size + 1) (.bool q.s) (.slice q.A q.n q.c) (.slice q.B q.m q.d) by rw [hW]; exact (Box3.new _ _ _ _ (by simp)))
  have hwW : Below w.heap.size w W := by rw [hW]; exact (Below.al_ (Below.al_ (Below.refl _ _) _) _)
  have H_p := hide (h_p.upto hwW (Nat.le_refl _))
  clear h_p
  have H_q := hide (h_q.upto hwW (Nat.le_refl _))
  clear h_q
  have B := hide hwW
  clear hwW
  have hn0 := hn.1
  have hn1 := hn.2
  have hm0 := hm.1
  have hm1 := hm.2
  have hbn := hide (fun w => below_p (w := w) hd hn)
  have hbm := hide (fun w => below_p (w := w) hd hm)
  have e : bwB n = false := by simp only [bwB, decide_eq_false_iff_not]; omega
  have e2 : bwN d n = 0 ∧ bwS d n = d := by rw [bwN, bwS, if_neg (by rw [e]; decide), if_neg (by rw [e]; decide)]; exact ⟨rfl, rfl⟩
  obtain ⟨y, hy⟩ : ∃ y, y = bwN d m := ⟨_, rfl⟩
  obtain ⟨ym, hym⟩ : ∃ y, y = bwS d m := ⟨_, rfl⟩
  rw [e2.1, e2.2] at hbn
  rw [← hy, ← hym] at hbm
  clear e e2 hy hym
  have d1 : decide (n < 1) = true := decide_eq_true h
  clear h hn hm
  have hnx := hide (fun w => next_p (w := w) hd)
  have hul := dup_lt d
  have hsl := dnx_lt d
  obtain ⟨a, ha⟩ : ∃ a, chB d r = a := ⟨_, rfl⟩
  obtain ⟨b, hb'⟩ : ∃ b, chB d u = b := ⟨_, rfl⟩
  have c1 := hide (fun (v : World) (h : Rq v v.heap.size 1048576 p r) => chance_p hd h (by decide) (Nat.le_refl _))
  have c2 := hide (fun (v : World) (h : Rq v v.heap.size 1048576 q u) => chance_p hd h (by decide) (Nat.le_refl _))
  rw [ha] at c1
  rw [hb'] at c2
  have hch0 := hide (chq_ge (s := d))
  have hch1 := hide (chq_lt (s := d))
  have hyes := hide (fun (e : chB d r = true) => chq_yes e)
  have hno := hide (fun (e : chB d r = false) => chq_no e)
  have hno2 := hide (fun (e : chB d u = false) => chq_no e)
  rw [ha] at hyes hno
  rw [hb'] at hno2
  obtain ⟨t, ht⟩ : ∃ t, t = dnx d := ⟨_, rfl⟩
  rw [← ht] at hnx hsl c1 c2
  obtain ⟨x0, hx0⟩ : ∃ x, x = dup d := ⟨_, rfl⟩
  rw [← hx0] at hnx hul
  clear ht ha hb' hx0
  go_enter Try.func8, Try.ntmps8
  go_wp2_with fail
  rw [← hW]
  clear hW
  refine (hnx.out _).mono ?_
  rintro e w1 ⟨rfl, hb⟩
  replace H_p := hide (H_p.out.then_ hb)
  replace H_q := hide (H_q.out.then_ hb)
  replace b_p := hide (b_p.out.keep hb)
  replace b_q := hide (b_q.out.keep hb)
  replace B := hide (Below.then_ B.out hb)
  clear hb
  go_wp2_with fail
  refine (hbn.out _).mono ?_
  rintro e w2 ⟨rfl, hb⟩
  replace H_p := hide (H_p.out.then_ hb)
  replace H_q := hide (H_q.out.then_ hb)
  replace b_p := hide (b_p.out.keep hb)
  replace b_q := hide (b_q.out.keep hb)
  replace B := hide (Below.then_ B.out hb)
  clear hb
  go_wp2_with fail
  refine (hbm.out _).mono ?_
  rintro e w3 ⟨rfl, hb⟩
  replace H_p := hide (H_p.out.then_ hb)
  replace H_q := hide (H_q.out.then_ hb)
  replace b_p := hide (b_p.out.keep hb)
  replace b_q := hide (b_q.out.keep hb)
  replace B := hide (Below.then_ B.out hb)
  clear hb
  go_wp2_with fail
  refine (of11d _).mono ?_
  rintro e w4 ⟨x_o, rfl, H_o, hb⟩
  replace H_p := hide (H_p.out.then_ hb)
  replace H_q := hide (H_q.out.then_ hb)
  replace b_p := hide (b_p.out.keep hb)
  replace b_q := hide (b_q.out.keep hb)
  replace B := hide (Below.then_ B.out hb)
  clear hb
  replace H_o := hide H_o
  have b_o := hide (Box3.new w4 (.bool x_o.s) (.slice x_o.A x_o.n x_o.c) (.slice x_o.B x_o.m x_o.d) rfl)
  have hb : Below w4.heap.size w4 (w4.alloc (.cells #[.bool x_o.s, .slice x_o.A x_o.n x_o.c, .slice x_o.B x_o.m x_o.d] 27)) := Below.al_ (Below.refl _ _) _
  replace H_p := hide (H_p.out.then_ hb)
  replace H_q := hide (H_q.out.then_ hb)
  replace H_o := hide (H_o.out.then_ hb)
  replace b_p := hide (b_p.out.keep hb)
  replace b_q := hide (b_q.out.keep hb)
  replace B := hide (Below.then_ B.out hb)
  clear hb
  have c_p0 := b_p.out.at0 b_p.out.lt_size (Nat.le_refl _) _ (Below.refl _ _)
  have c_p1 := b_p.out.at1 b_p.out.lt_size (Nat.le_refl _) _ (Below.refl _ _)
  have c_p2 := b_p.out.at2 b_p.out.lt_size (Nat.le_refl _) _ (Below.refl _ _)
  have c_q0 := b_q.out.at0 b_q.out.lt_size (Nat.le_refl _) _ (Below.refl _ _)
  have c_q1 := b_q.out.at1 b_q.out.lt_size (Nat.le_refl _) _ (Below.refl _ _)
  have c_q2 := b_q.out.at2 b_q.out.lt_size (Nat.le_refl _) _ (Below.refl _ _)
  have c_o0 := b_o.out.at0 b_o.out.lt_size (Nat.le_refl _) _ (Below.refl _ _)
  have c_o1 := b_o.out.at1 b_o.out.lt_size (Nat.le_refl _) _ (Below.refl _ _)
  have c_o2 := b_o.out.at2 b_o.out.lt_size (Nat.le_refl _) _ (Below.refl _ _)
  go_wp2_with fail
  refine (c1.out _ H_p.out).mono ?_
  rintro e w5 ⟨rfl, hb⟩
  replace H_p := hide (H_p.out.then_ hb)
  replace H_q := hide (H_q.out.then_ hb)
  replace H_o := hide (H_o.out.then_ hb)
  replace b_p := hide (b_p.out.keep hb)
  replace b_q := hide (b_q.out.keep hb)
  replace b_o := hide (b_o.out.keep hb)
  replace B := hide (Below.then_ B.out hb)
  clear hb
  clear c_p0 c_p1 c_p2
  clear c_q0 c_q1 c_q2
  clear c_o0 c_o1 c_o2
  have c_p0 := b_p.out.at0 b_p.out.lt_size (Nat.le_refl _) _ (Below.refl _ _)
  have c_p1 := b_p.out.at1 b_p.out.lt_size (Nat.le_refl _) _ (Below.refl _ _)
  have c_p2 := b_p.out.at2 b_p.out.lt_size (Nat.le_refl _) _ (Below.refl _ _)
  have c_q0 := b_q.out.at0 b_q.out.lt_size (Nat.le_refl _) _ (Below.refl _ _)
  have c_q1 := b_q.out.at1 b_q.out.lt_size (Nat.le_refl _) _ (Below.refl _ _)
  have c_q2 := b_q.out.at2 b_q.out.lt_size (Nat.le_refl _) _ (Below.refl _ _)
  have c_o0 := b_o.out.at0 b_o.out.lt_size (Nat.le_refl _) _ (Below.refl _ _)
  have c_o1 := b_o.out.at1 b_o.out.lt_size (Nat.le_refl _) _ (Below.refl _ _)
  have c_o2 := b_o.out.at2 b_o.out.lt_size (Nat.le_refl _) _ (Below.refl _ _)
  go_wp2_with fail
  refine (c2.out _ H_q.out).mono ?_
  rintro e w6 ⟨rfl, hb⟩
  replace H_p := hide (H_p.out.then_ hb)
  replace H_q := hide (H_q.out.then_ hb)
  replace H_o := hide (H_o.out.then_ hb)
  replace b_p := hide (b_p.out.keep hb)
  replace b_q := hide (b_q.out.keep hb)
  replace b_o := hide (b_o.out.keep hb)
  replace B := hide (Below.then_ B.out hb)
  clear hb
  clear c_p0 c_p1 c_p2
  clear c_q0 c_q1 c_q2
  clear c_o0 c_o1 c_o2
  cases a with
  | false =>
    have hp1 := hide (show sgn (r - 1).num < 0 from cmp_lt.2 (by have h1 := hno.out rfl; have h2 := hch1.out; grind))
    obtain ⟨k1, hk1⟩ : ∃ k, sgn (r - 1).num = k := ⟨_, rfl⟩
    have hk1l := hp1.out
    rw [hk1] at hk1l
    have g1 : decide ((0 : Int) ≤ k1) = false := by simp; omega
    obtain ⟨ks, hks⟩ : ∃ k, sgn r.num = k := ⟨_, rfl⟩
    replace hks := hide hks
    replace hk1 := hide hk1
    clear hp1 hk1l hyes hno hno2
    by_cases hs : ks ≤ 0
    · have g2 : decide (ks ≤ 0) = true := decide_eq_true hs
      have c_p0 := b_p.out.at0 b_p.out.lt_size (Nat.le_refl _) _ (Below.refl _ _)
      have c_p1 := b_p.out.at1 b_p.out.lt_size (Nat.le_refl _) _ (Below.refl _ _)
      have c_p2 := b_p.out.at2 b_p.out.lt_size (Nat.le_refl _) _ (Below.refl _ _)
      have c_q0 := b_q.out.at0 b_q.out.lt_size (Nat.le_refl _) _ (Below.refl _ _)
      have c_q1 := b_q.out.at1 b_q.out.lt_size (Nat.le_refl _) _ (Below.refl _ _)
      have c_q2 := b_q.out.at2 b_q.out.lt_size (Nat.le_refl _) _ (Below.refl _ _)
      have c_o0 := b_o.out.at0 b_o.out.lt_size (Nat.le_refl _) _ (Below.refl _ _)
      have c_o1 := b_o.out.at1 b_o.out.lt_size (Nat.le_refl _) _ (Below.refl _ _)
      have c_o2 := b_o.out.at2 b_o.out.lt_size (Nat.le_refl _) _ (Below.refl _ _)
      go_wp2_with fail
      refine (sign_q H_p.out (by decide) (Nat.le_refl _) hks.out).mono ?_
      rintro e w41 ⟨rfl, hb⟩
      replace H_p := hide (H_p.out.then_ hb)
      replace H_q := hide (H_q.out.then_ hb)
      replace H_o := hide (H_o.out.then_ hb)
      replace b_p := hide (b_p.out.keep hb)
      replace b_q := hide (b_q.out.keep hb)
      replace b_o := hide (b_o.out.keep hb)
      replace B := hide (Below.then_ B.out hb)
      clear hb
      clear c_p0 c_p1 c_p2
      clear c_q0 c_q1 c_q2
      clear c_o0 c_o1 c_o2
      have c_p0 := b_p.out.at0 b_p.out.lt_size (Nat.le_refl _) _ (Below.refl _ _)
      have c_p1 := b_p.out.at1 b_p.out.lt_size (Nat.le_refl _) _ (Below.refl _ _)
      have c_p2 := b_p.out.at2 b_p.out.lt_size (Nat.le_refl _) _ (Below.refl _ _)
      have c_q0 := b_q.out.at0 b_q.out.lt_size (Nat.le_refl _) _ (Below.refl _ _)
      have c_q1 := b_q.out.at1 b_q.out.lt_size (Nat.le_refl _) _ (Below.refl _ _)
      have c_q2 := b_q.out.at2 b_q.out.lt_size (Nat.le_refl _) _ (Below.refl _ _)
      have c_o0 := b_o.out.at0 b_o.out.lt_size (Nat.le_refl _) _ (Below.refl _ _)
      have c_o1 := b_o.out.at1 b_o.out.lt_size (Nat.le_refl _) _ (Below.refl _ _)
      have c_o2 := b_o.out.at2 b_o.out.lt_size (Nat.le_refl _) _ (Below.refl _ _)
      go_wp2_with fail
      refine (cmp_q H_p.out (by decide) H_o.out.rq (by decide) (Nat.le_refl _) hk1.out).mono ?_
      rintro e w42 ⟨rfl, hb⟩
      replace H_p := hide (H_p.out.then_ hb)
      replace H_q := hide (H_q.out.then_ hb)
      replace H_o := hide (H_o.out.then_ hb)
      replace b_p := hide (b_p.out.keep hb)
      replace b_q := hide (b_q.out.keep hb)
      replace b_o := hide (b_o.out.keep hb)
      replace B := hide (Below.then_ B.out hb)
      clear hb
      clear c_p0 c_p1 c_p2
      clear c_q0 c_q1 c_q2
      clear c_o0 c_o1 c_o2
      go_wp2_with fail
      refine (hA _).mono ?_
      rintro e w43 ⟨rfl, hb⟩
      replace H_p := hide (H_p.out.then_ hb)
      replace H_q := hide (H_q.out.then_ hb)
      replace H_o := hide (H_o.out.then_ hb)
      replace b_p := hide (b_p.out.keep hb)
      replace b_q := hide (b_q.out.keep hb)
      replace b_o := hide (b_o.out.keep hb)
      replace B := hide (Below.then_ B.out hb)
      clear hb
      go_wp2
      go_ret
      exact ⟨rfl, B.out⟩
    · have g2 : decide (ks ≤ 0) = false := decide_eq_false hs
      have c_p0 := b_p.out.at0 b_p.out.lt_size (Nat.le_refl _) _ (Below.refl _ _)
      have c_p1 := b_p.out.at1 b_p.out.lt_size (Nat.le_refl _) _ (Below.refl _ _)
      have c_p2 := b_p.out.at2 b_p.out.lt_size (Nat.le_refl _) _ (Below.refl _ _)
      have c_q0 := b_q.out.at0 b_q.out.lt_size (Nat.le_refl _) _ (Below.refl _ _)
      have c_q1 := b_q.out.at1 b_q.out.lt_size (Nat.le_refl _) _ (Below.refl _ _)
      have c_q2 := b_q.out.at2 b_q.out.lt_size (Nat.le_refl _) _ (Below.refl _ _)
      have c_o0 := b_o.out.at0 b_o.out.lt_size (Nat.le_refl _) _ (Below.refl _ _)
      have c_o1 := b_o.out.at1 b_o.out.lt_size (Nat.le_refl _) _ (Below.refl _ _)
      have c_o2 := b_o.out.at2 b_o.out.lt_size (Nat.le_refl _) _ (Below.refl _ _)
      go_wp2_with fail
      refine (sign_q H_p.out (by decide) (Nat.le_refl _) hks.out).mono ?_
      rintro e w41 ⟨rfl, hb⟩
      replace H_p := hide (H_p.out.then_ hb)
      replace H_q := hide (H_q.out.then_ hb)
      replace H_o := hide (H_o.out.then_ hb)
      replace b_p := hide (b_p.out.keep hb)
      replace b_q := hide (b_q.out.keep hb)
      replace b_o := hide (b_o.out.keep hb)
      replace B := hide (Below.then_ B.out hb)
      clear hb
      clear c_p0 c_p1 c_p2
      clear c_q0 c_q1 c_q2
      clear c_o0 c_o1 c_o2
      have c_p0 := b_p.out.at0 b_p.out.lt_size (Nat.le_refl _) _ (Below.refl _ _)
      have c_p1 := b_p.out.at1 b_p.out.lt_size (Nat.le_refl _) _ (Below.refl _ _)
      have c_p2 := b_p.out.at2 b_p.out.lt_size (Nat.le_refl _) _ (Below.refl _ _)
      have c_q0 := b_q.out.at0 b_q.out.lt_size (Nat.le_refl _) _ (Below.refl _ _)
      have c_q1 := b_q.out.at1 b_q.out.lt_size (Nat.le_refl _) _ (Below.refl _ _)
      have c_q2 := b_q.out.at2 b_q.out.lt_size (Nat.le_refl _) _ (Below.refl _ _)
      have c_o0 := b_o.out.at0 b_o.out.lt_size (Nat.le_refl _) _ (Below.refl _ _)
      have c_o1 := b_o.out.at1 b_o.out.lt_size (Nat.le_refl _) _ (Below.refl _ _)
      have c_o2 := b_o.out.at2 b_o.out.lt_size (Nat.le_refl _) _ (Below.refl _ _)
      go_wp2_with fail
      refine (cmp_q H_p.out (by decide) H_o.out.rq (by decide) (Nat.le_refl _) hk1.out).mono ?_
      rintro e w42 ⟨rfl, hb⟩
      replace H_p := hide (H_p.out.then_ hb)
      replace H_q := hide (H_q.out.then_ hb)
      replace H_o := hide (H_o.out.then_ hb)
      replace b_p := hide (b_p.out.keep hb)
      replace b_q := hide (b_q.out.keep hb)
      replace b_o := hide (b_o.out.keep hb)
      replace B := hide (Below.then_ B.out hb)
      clear hb
      clear c_p0 c_p1 c_p2
      clear c_q0 c_q1 c_q2
      clear c_o0 c_o1 c_o2
      go_wp2_with fail
      refine (hA _).mono ?_
      rintro e w43 ⟨rfl, hb⟩
      replace H_p := hide (H_p.out.then_ hb)
      replace H_q := hide (H_q.out.then_ hb)
      replace H_o := hide (H_o.out.then_ hb)
      replace b_p := hide (b_p.out.keep hb)
      replace b_q := hide (b_q.out.keep hb)
      replace b_o := hide (b_o.out.keep hb)
      replace B := hide (Below.then_ B.out hb)
      clear hb
      go_wp2
      go_ret
      exact ⟨rfl, B.out⟩
  | true =>
    have hp1 := hide (show ¬ sgn r.num ≤ 0 from sgn_gt (by have h1 := hyes.out rfl; have h2 := hch0.out; grind))
    obtain ⟨ks, hks⟩ : ∃ k, sgn r.num = k := ⟨_, rfl⟩
    have hksl := hp1.out
    rw [hks] at hksl
    have g1 : decide (ks ≤ 0) = false := decide_eq_false hksl
    obtain ⟨k1, hk1⟩ : ∃ k, sgn (r - 1).num = k := ⟨_, rfl⟩
    obtain ⟨k2, hk2⟩ : ∃ k, sgn (r - u).num = k := ⟨_, rfl⟩
    have hb2 := hide (show k2 ≤ 0 → b = true from fun h => by
      cases b with
      | true => rfl
      | false => rw [← hk2, cmp_le] at h; have h1 := hyes.out rfl; have h2 := hno2.out rfl; exact absurd h1 (by rw [Rat.not_lt]; grind))
    replace hks := hide hks
    replace hk1 := hide hk1
    replace hk2 := hide hk2
    clear hp1 hksl hyes hno hno2
    by_cases h2 : k2 ≤ 0
    · obtain rfl : b = true := hb2.out h2
      have g2 : decide (k2 ≤ 0) = true := decide_eq_true h2
      clear hb2 h2
      have c_p0 := b_p.out.at0 b_p.out.lt_size (Nat.le_refl _) _ (Below.refl _ _)
      have c_p1 := b_p.out.at1 b_p.out.lt_size (Nat.le_refl _) _ (Below.refl _ _)
      have c_p2 := b_p.out.at2 b_p.out.lt_size (Nat.le_refl _) _ (Below.refl _ _)
      have c_q0 := b_q.out.at0 b_q.out.lt_size (Nat.le_refl _) _ (Below.refl _ _)
      have c_q1 := b_q.out.at1 b_q.out.lt_size (Nat.le_refl _) _ (Below.refl _ _)
      have c_q2 := b_q.out.at2 b_q.out.lt_size (Nat.le_refl _) _ (Below.refl _ _)
      have c_o0 := b_o.out.at0 b_o.out.lt_size (Nat.le_refl _) _ (Below.refl _ _)
      have c_o1 := b_o.out.at1 b_o.out.lt_size (Nat.le_refl _) _ (Below.refl _ _)
      have c_o2 := b_o.out.at2 b_o.out.lt_size (Nat.le_refl _) _ (Below.refl _ _)
      go_wp2_with fail
      refine (cmp_q H_p.out (by decide) H_q.out (by decide) (Nat.le_refl _) hk2.out).mono ?_
      rintro e w61 ⟨rfl, hb⟩
      replace H_p := hide (H_p.out.then_ hb)
      replace H_q := hide (H_q.out.then_ hb)
      replace H_o := hide (H_o.out.then_ hb)
      replace b_p := hide (b_p.out.keep hb)
      replace b_q := hide (b_q.out.keep hb)
      replace b_o := hide (b_o.out.keep hb)
      replace B := hide (Below.then_ B.out hb)
      clear hb
      clear c_p0 c_p1 c_p2
      clear c_q0 c_q1 c_q2
      clear c_o0 c_o1 c_o2
      have c_p0 := b_p.out.at0 b_p.out.lt_size (Nat.le_refl _) _ (Below.refl _ _)
      have c_p1 := b_p.out.at1 b_p.out.lt_size (Nat.le_refl _) _ (Below.refl _ _)
      have c_p2 := b_p.out.at2 b_p.out.lt_size (Nat.le_refl _) _ (Below.refl _ _)
      have c_q0 := b_q.out.at0 b_q.out.lt_size (Nat.le_refl _) _ (Below.refl _ _)
      have c_q1 := b_q.out.at1 b_q.out.lt_size (Nat.le_refl _) _ (Below.refl _ _)
      have c_q2 := b_q.out.at2 b_q.out.lt_size (Nat.le_refl _) _ (Below.refl _ _)
      have c_o0 := b_o.out.at0 b_o.out.lt_size (Nat.le_refl _) _ (Below.refl _ _)
      have c_o1 := b_o.out.at1 b_o.out.lt_size (Nat.le_refl _) _ (Below.refl _ _)
      have c_o2 := b_o.out.at2 b_o.out.lt_size (Nat.le_refl _) _ (Below.refl _ _)
      go_wp2_with fail
      refine (sign_q H_p.out (by decide) (Nat.le_refl _) hks.out).mono ?_
      rintro e w62 ⟨rfl, hb⟩
      replace H_p := hide (H_p.out.then_ hb)
      replace H_q := hide (H_q.out.then_ hb)
      replace H_o := hide (H_o.out.then_ hb)
      replace b_p := hide (b_p.out.keep hb)
      replace b_q := hide (b_q.out.keep hb)
      replace b_o := hide (b_o.out.keep hb)
      replace B := hide (Below.then_ B.out hb)
      clear hb
      clear c_p0 c_p1 c_p2
      clear c_q0 c_q1 c_q2
      clear c_o0 c_o1 c_o2
      have c_p0 := b_p.out.at0 b_p.out.lt_size (Nat.le_refl _) _ (Below.refl _ _)
      have c_p1 := b_p.out.at1 b_p.out.lt_size (Nat.le_refl _) _ (Below.refl _ _)
      have c_p2 := b_p.out.at2 b_p.out.lt_size (Nat.le_refl _) _ (Below.refl _ _)
      have c_q0 := b_q.out.at0 b_q.out.lt_size (Nat.le_refl _) _ (Below.refl _ _)
      have c_q1 := b_q.out.at1 b_q.out.lt_size (Nat.le_refl _) _ (Below.refl _ _)
      have c_q2 := b_q.out.at2 b_q.out.lt_size (Nat.le_refl _) _ (Below.refl _ _)
      have c_o0 := b_o.out.at0 b_o.out.lt_size (Nat.le_refl _) _ (Below.refl _ _)
      have c_o1 := b_o.out.at1 b_o.out.lt_size (Nat.le_refl _) _ (Below.refl _ _)
      have c_o2 := b_o.out.at2 b_o.out.lt_size (Nat.le_refl _) _ (Below.refl _ _)
      go_wp2_with fail
      refine (cmp_q H_p.out (by decide) H_o.out.rq (by decide) (Nat.le_refl _) hk1.out).mono ?_
      rintro e w63 ⟨rfl, hb⟩
      replace H_p := hide (H_p.out.then_ hb)
      replace H_q := hide (H_q.out.then_ hb)
      replace H_o := hide (H_o.out.then_ hb)
      replace b_p := hide (b_p.out.keep hb)
      replace b_q := hide (b_q.out.keep hb)
      replace b_o := hide (b_o.out.keep hb)
      replace B := hide (Below.then_ B.out hb)
      clear hb
      clear c_p0 c_p1 c_p2
      clear c_q0 c_q1 c_q2
      clear c_o0 c_o1 c_o2
      clear b_p b_q b_o
      by_cases h3 : 0 ≤ k1
      · have g3 : decide ((0 : Int) ≤ k1) = true := decide_eq_true h3
        clear h3
        go_wp2_with fail
        refine (hA _).mono ?_
        rintro e w81 ⟨rfl, hb⟩
        replace H_p := hide (H_p.out.then_ hb)
        replace H_q := hide (H_q.out.then_ hb)
        replace H_o := hide (H_o.out.then_ hb)
        replace B := hide (Below.then_ B.out hb)
        clear hb
        go_wp2
        go_ret
        exact ⟨rfl, B.out⟩
      · have g3 : decide ((0 : Int) ≤ k1) = false := decide_eq_false h3
        clear h3
        go_wp2_with fail
        refine (hA _).mono ?_
        rintro e w81 ⟨rfl, hb⟩
        replace H_p := hide (H_p.out.then_ hb)
        replace H_q := hide (H_q.out.then_ hb)
        replace H_o := hide (H_o.out.then_ hb)
        replace B := hide (Below.then_ B.out hb)
        clear hb
        go_wp2
        go_ret
        exact ⟨rfl, B.out⟩
    · have g2 : decide (k2 ≤ 0) = false := decide_eq_false h2
      clear hb2 h2
      have c_p0 := b_p.out.at0 b_p.out.lt_size (Nat.le_refl _) _ (Below.refl _ _)
      have c_p1 := b_p.out.at1 b_p.out.lt_size (Nat.le_refl _) _ (Below.refl _ _)
      have c_p2 := b_p.out.at2 b_p.out.lt_size (Nat.le_refl _) _ (Below.refl _ _)
      have c_q0 := b_q.out.at0 b_q.out.lt_size (Nat.le_refl _) _ (Below.refl _ _)
      have c_q1 := b_q.out.at1 b_q.out.lt_size (Nat.le_refl _) _ (Below.refl _ _)
      have c_q2 := b_q.out.at2 b_q.out.lt_size (Nat.le_refl _) _ (Below.refl _ _)
      have c_o0 := b_o.out.at0 b_o.out.lt_size (Nat.le_refl _) _ (Below.refl _ _)
      have c_o1 := b_o.out.at1 b_o.out.lt_size (Nat.le_refl _) _ (Below.refl _ _)
      have c_o2 := b_o.out.at2 b_o.out.lt_size (Nat.le_refl _) _ (Below.refl _ _)
      go_wp2_with fail
      refine (cmp_q H_p.out (by decide) H_q.out (by decide) (Nat.le_refl _) hk2.out).mono ?_
      rintro e w61 ⟨rfl, hb⟩
      replace H_p := hide (H_p.out.then_ hb)
      replace H_q := hide (H_q.out.then_ hb)
      replace H_o := hide (H_o.out.then_ hb)
      replace b_p := hide (b_p.out.keep hb)
      replace b_q := hide (b_q.out.keep hb)
      replace b_o := hide (b_o.out.keep hb)
      replace B := hide (Below.then_ B.out hb)
      clear hb
      clear c_p0 c_p1 c_p2
      clear c_q0 c_q1 c_q2
      clear c_o0 c_o1 c_o2
      have c_p0 := b_p.out.at0 b_p.out.lt_size (Nat.le_refl _) _ (Below.refl _ _)
      have c_p1 := b_p.out.at1 b_p.out.lt_size (Nat.le_refl _) _ (Below.refl _ _)
      have c_p2 := b_p.out.at2 b_p.out.lt_size (Nat.le_refl _) _ (Below.refl _ _)
      have c_q0 := b_q.out.at0 b_q.out.lt_size (Nat.le_refl _) _ (Below.refl _ _)
      have c_q1 := b_q.out.at1 b_q.out.lt_size (Nat.le_refl _) _ (Below.refl _ _)
      have c_q2 := b_q.out.at2 b_q.out.lt_size (Nat.le_refl _) _ (Below.refl _ _)
      have c_o0 := b_o.out.at0 b_o.out.lt_size (Nat.le_refl _) _ (Below.refl _ _)
      have c_o1 := b_o.out.at1 b_o.out.lt_size (Nat.le_refl _) _ (Below.refl _ _)
      have c_o2 := b_o.out.at2 b_o.out.lt_size (Nat.le_refl _) _ (Below.refl _ _)
      go_wp2_with fail
      refine (sign_q H_p.out (by decide) (Nat.le_refl _) hks.out).mono ?_
      rintro e w62 ⟨rfl, hb⟩
      replace H_p := hide (H_p.out.then_ hb)
      replace H_q := hide (H_q.out.then_ hb)
      replace H_o := hide (H_o.out.then_ hb)
      replace b_p := hide (b_p.out.keep hb)
      replace b_q := hide (b_q.out.keep hb)
      replace b_o := hide (b_o.out.keep hb)
      replace B := hide (Below.then_ B.out hb)
      clear hb
      clear c_p0 c_p1 c_p2
      clear c_q0 c_q1 c_q2
      clear c_o0 c_o1 c_o2
      have c_p0 := b_p.out.at0 b_p.out.lt_size (Nat.le_refl _) _ (Below.refl _ _)
      have c_p1 := b_p.out.at1 b_p.out.lt_size (Nat.le_refl _) _ (Below.refl _ _)
      have c_p2 := b_p.out.at2 b_p.out.lt_size (Nat.le_refl _) _ (Below.refl _ _)
      have c_q0 := b_q.out.at0 b_q.out.lt_size (Nat.le_refl _) _ (Below.refl _ _)
      have c_q1 := b_q.out.at1 b_q.out.lt_size (Nat.le_refl _) _ (Below.refl _ _)
      have c_q2 := b_q.out.at2 b_q.out.lt_size (Nat.le_refl _) _ (Below.refl _ _)
      have c_o0 := b_o.out.at0 b_o.out.lt_size (Nat.le_refl _) _ (Below.refl _ _)
      have c_o1 := b_o.out.at1 b_o.out.lt_size (Nat.le_refl _) _ (Below.refl _ _)
      have c_o2 := b_o.out.at2 b_o.out.lt_size (Nat.le_refl _) _ (Below.refl _ _)
      go_wp2_with fail
      refine (cmp_q H_p.out (by decide) H_o.out.rq (by decide) (Nat.le_refl _) hk1.out).mono ?_
      rintro e w63 ⟨rfl, hb⟩
      replace H_p := hide (H_p.out.then_ hb)
      replace H_q := hide (H_q.out.then_ hb)
      replace H_o := hide (H_o.out.then_ hb)
      replace b_p := hide (b_p.out.keep hb)
      replace b_q := hide (b_q.out.keep hb)
      replace b_o := hide (b_o.out.keep hb)
      replace B := hide (Below.then_ B.out hb)
      clear hb
      clear c_p0 c_p1 c_p2
      clear c_q0 c_q1 c_q2
      clear c_o0 c_o1 c_o2
      clear b_p b_q b_o
      by_cases h3 : 0 ≤ k1
      · have g3 : decide ((0 : Int) ≤ k1) = true := decide_eq_true h3
        clear h3
        go_wp2_with fail
        refine (hA _).mono ?_
        rintro e w81 ⟨rfl, hb⟩
        replace H_p := hide (H_p.out.then_ hb)
        replace H_q := hide (H_q.out.then_ hb)
        replace H_o := hide (H_o.out.then_ hb)
        replace B := hide (Below.then_ B.out hb)
        clear hb
        go_wp2
        go_ret
        exact ⟨rfl, B.out⟩
      · have g3 : decide ((0 : Int) ≤ k1) = false := decide_eq_false h3
        clear h3
        go_wp2_with fail
        refine (hA _).mono ?_
        rintro e w81 ⟨rfl, hb⟩
        replace H_p := hide (H_p.out.then_ hb)
        replace H_q := hide (H_q.out.then_ hb)
        replace H_o := hide (H_o.out.then_ hb)
        replace B := hide (Below.then_ B.out hb)
        clear hb
        go_wp2
        go_ret
        exact ⟨rfl, B.out⟩
set_option maxHeartbeats 16000000 in
set_option maxRecDepth 100000 in
theorem ranges_high (hA : ∀ w : World, Calls Try.prog 27 #[] w (RetB w (.bool true))) {w : World} {d : Nat} {p q : Rc} {r u : Rat} (hd : d < 18446744073709551616) {n m : Int} (hn : I64 n) (hm : I64 m) (h : 2147483648 < n) (h_p : Rq w w.heap.size 1048576 p r) (h_q : Rq w w.heap.size 1048576 q u) : Calls Try.prog 8 #[.int .u64 (d : Int), .int .i64 n, .int .i64 m, .agg #[.bool p.s, .slice p.A p.n p.c, .slice p.B p.m p.d], .agg #[.bool q.s, .slice q.A q.n q.c, .slice q.B q.m q.d]] w (RetB w (.bool true)) := by
  obtain ⟨W, hW⟩ : ∃ W, W = ((w.alloc (.cells #[.bool p.s, .slice p.A p.n p.c, .slice p.B p.m p.d] 27)).alloc (.cells #[.bool q.s, .slice q.A q.n q.c, .slice q.B q.m q.d] 27)) := ⟨_, rfl⟩
  have b_p := hide (show Box3 W (w.heap.size) (.bool p.s) (.slice p.A p.n p.c) (.slice p.B p.m p.d) by rw [hW]; exact ((Box3.new w _ _ _ rfl).al _))
  have b_q := hide (show Box3 W (w.heap.size + 1) (.bool q.s) (.slice q.A q.n q.c) (.slice q.B q.m q.d) by rw [hW]; exact (Box3.new _ _ _ _ (by simp)))
  have hwW : Below w.heap.size w W := by rw [hW]; exact (Below.al_ (Below.al_ (Below.refl _ _) _) _)
  have H_p := hide (h_p.upto hwW (Nat.le_refl _))
  clear h_p
  have H_q := hide (h_q.upto hwW (Nat.le_refl _))
  clear h_q
  have B := hide hwW
  clear hwW
  have hn0 := hn.1
  have hn1 := hn.2
  have hm0 := hm.1
  have hm1 := hm.2
  have hbn := hide (fun w => below_p (w := w) hd hn)
  have hbm := hide (fun w => below_p (w := w) hd hm)
  have e : bwB n = false := by simp only [bwB, decide_eq_false_iff_not]; omega
  have e2 : bwN d n = 0 ∧ bwS d n = d := by rw [bwN, bwS, if_neg (by rw [e]; decide), if_neg (by rw [e]; decide)]; exact ⟨rfl, rfl⟩
  obtain ⟨y, hy⟩ : ∃ y, y = bwN d m := ⟨_, rfl⟩
  obtain ⟨ym, hym⟩ : ∃ y, y = bwS d m := ⟨_, rfl⟩
  rw [e2.1, e2.2] at hbn
  rw [← hy, ← hym] at hbm
  clear e e2 hy hym
  have d1 : decide (n < 1) = false := decide_eq_false (by omega)
  have d2 : decide ((2147483648 : Int) < n) = true := decide_eq_true h
  clear h hn hm
  have hnx := hide (fun w => next_p (w := w) hd)
  have hul := dup_lt d
  have hsl := dnx_lt d
  obtain ⟨a, ha⟩ : ∃ a, chB d r = a := ⟨_, rfl⟩
  obtain ⟨b, hb'⟩ : ∃ b, chB d u = b := ⟨_, rfl⟩
  have c1 := hide (fun (v : World) (h : Rq v v.heap.size 1048576 p r) => chance_p hd h (by decide) (Nat.le_refl _))
  have c2 := hide (fun (v : World) (h : Rq v v.heap.size 1048576 q u) => chance_p hd h (by decide) (Nat.le_refl _))
  rw [ha] at c1
  rw [hb'] at c2
  have hch0 := hide (chq_ge (s := d))
  have hch1 := hide (chq_lt (s := d))
  have hyes := hide (fun (e : chB d r = true) => chq_yes e)
  have hno := hide (fun (e : chB d r = false) => chq_no e)
  have hno2 := hide (fun (e : chB d u = false) => chq_no e)
  rw [ha] at hyes hno
  rw [hb'] at hno2
  obtain ⟨t, ht⟩ : ∃ t, t = dnx d := ⟨_, rfl⟩
  rw [← ht] at hnx hsl c1 c2
  obtain ⟨x0, hx0⟩ : ∃ x, x = dup d := ⟨_, rfl⟩
  rw [← hx0] at hnx hul
  clear ht ha hb' hx0
  go_enter Try.func8, Try.ntmps8
  go_wp2_with fail
  rw [← hW]
  clear hW
  refine (hnx.out _).mono ?_
  rintro e w1 ⟨rfl, hb⟩
  replace H_p := hide (H_p.out.then_ hb)
  replace H_q := hide (H_q.out.then_ hb)
  replace b_p := hide (b_p.out.keep hb)
  replace b_q := hide (b_q.out.keep hb)
  replace B := hide (Below.then_ B.out hb)
  clear hb
  go_wp2_with fail
  refine (hbn.out _).mono ?_
  rintro e w2 ⟨rfl, hb⟩
  replace H_p := hide (H_p.out.then_ hb)
  replace H_q := hide (H_q.out.then_ hb)
  replace b_p := hide (b_p.out.keep hb)
  replace b_q := hide (b_q.out.keep hb)
  replace B := hide (Below.then_ B.out hb)
  clear hb
  go_wp2_with fail
  refine (hbm.out _).mono ?_
  rintro e w3 ⟨rfl, hb⟩
  replace H_p := hide (H_p.out.then_ hb)
  replace H_q := hide (H_q.out.then_ hb)
  replace b_p := hide (b_p.out.keep hb)
  replace b_q := hide (b_q.out.keep hb)
  replace B := hide (Below.then_ B.out hb)
  clear hb
  go_wp2_with fail
  refine (of11d _).mono ?_
  rintro e w4 ⟨x_o, rfl, H_o, hb⟩
  replace H_p := hide (H_p.out.then_ hb)
  replace H_q := hide (H_q.out.then_ hb)
  replace b_p := hide (b_p.out.keep hb)
  replace b_q := hide (b_q.out.keep hb)
  replace B := hide (Below.then_ B.out hb)
  clear hb
  replace H_o := hide H_o
  have b_o := hide (Box3.new w4 (.bool x_o.s) (.slice x_o.A x_o.n x_o.c) (.slice x_o.B x_o.m x_o.d) rfl)
  have hb : Below w4.heap.size w4 (w4.alloc (.cells #[.bool x_o.s, .slice x_o.A x_o.n x_o.c, .slice x_o.B x_o.m x_o.d] 27)) := Below.al_ (Below.refl _ _) _
  replace H_p := hide (H_p.out.then_ hb)
  replace H_q := hide (H_q.out.then_ hb)
  replace H_o := hide (H_o.out.then_ hb)
  replace b_p := hide (b_p.out.keep hb)
  replace b_q := hide (b_q.out.keep hb)
  replace B := hide (Below.then_ B.out hb)
  clear hb
  have c_p0 := b_p.out.at0 b_p.out.lt_size (Nat.le_refl _) _ (Below.refl _ _)
  have c_p1 := b_p.out.at1 b_p.out.lt_size (Nat.le_refl _) _ (Below.refl _ _)
  have c_p2 := b_p.out.at2 b_p.out.lt_size (Nat.le_refl _) _ (Below.refl _ _)
  have c_q0 := b_q.out.at0 b_q.out.lt_size (Nat.le_refl _) _ (Below.refl _ _)
  have c_q1 := b_q.out.at1 b_q.out.lt_size (Nat.le_refl _) _ (Below.refl _ _)
  have c_q2 := b_q.out.at2 b_q.out.lt_size (Nat.le_refl _) _ (Below.refl _ _)
  have c_o0 := b_o.out.at0 b_o.out.lt_size (Nat.le_refl _) _ (Below.refl _ _)
  have c_o1 := b_o.out.at1 b_o.out.lt_size (Nat.le_refl _) _ (Below.refl _ _)
  have c_o2 := b_o.out.at2 b_o.out.lt_size (Nat.le_refl _) _ (Below.refl _ _)
  go_wp2_with fail
  refine (c1.out _ H_p.out).mono ?_
  rintro e w5 ⟨rfl, hb⟩
  replace H_p := hide (H_p.out.then_ hb)
  replace H_q := hide (H_q.out.then_ hb)
  replace H_o := hide (H_o.out.then_ hb)
  replace b_p := hide (b_p.out.keep hb)
  replace b_q := hide (b_q.out.keep hb)
  replace b_o := hide (b_o.out.keep hb)
  replace B := hide (Below.then_ B.out hb)
  clear hb
  clear c_p0 c_p1 c_p2
  clear c_q0 c_q1 c_q2
  clear c_o0 c_o1 c_o2
  have c_p0 := b_p.out.at0 b_p.out.lt_size (Nat.le_refl _) _ (Below.refl _ _)
  have c_p1 := b_p.out.at1 b_p.out.lt_size (Nat.le_refl _) _ (Below.refl _ _)
  have c_p2 := b_p.out.at2 b_p.out.lt_size (Nat.le_refl _) _ (Below.refl _ _)
  have c_q0 := b_q.out.at0 b_q.out.lt_size (Nat.le_refl _) _ (Below.refl _ _)
  have c_q1 := b_q.out.at1 b_q.out.lt_size (Nat.le_refl _) _ (Below.refl _ _)
  have c_q2 := b_q.out.at2 b_q.out.lt_size (Nat.le_refl _) _ (Below.refl _ _)
  have c_o0 := b_o.out.at0 b_o.out.lt_size (Nat.le_refl _) _ (Below.refl _ _)
  have c_o1 := b_o.out.at1 b_o.out.lt_size (Nat.le_refl _) _ (Below.refl _ _)
  have c_o2 := b_o.out.at2 b_o.out.lt_size (Nat.le_refl _) _ (Below.refl _ _)
  go_wp2_with fail
  refine (c2.out _ H_q.out).mono ?_
  rintro e w6 ⟨rfl, hb⟩
  replace H_p := hide (H_p.out.then_ hb)
  replace H_q := hide (H_q.out.then_ hb)
  replace H_o := hide (H_o.out.then_ hb)
  replace b_p := hide (b_p.out.keep hb)
  replace b_q := hide (b_q.out.keep hb)
  replace b_o := hide (b_o.out.keep hb)
  replace B := hide (Below.then_ B.out hb)
  clear hb
  clear c_p0 c_p1 c_p2
  clear c_q0 c_q1 c_q2
  clear c_o0 c_o1 c_o2
  cases a with
  | false =>
    have hp1 := hide (show sgn (r - 1).num < 0 from cmp_lt.2 (by have h1 := hno.out rfl; have h2 := hch1.out; grind))
    obtain ⟨k1, hk1⟩ : ∃ k, sgn (r - 1).num = k := ⟨_, rfl⟩
    have hk1l := hp1.out
    rw [hk1] at hk1l
    have g1 : decide ((0 : Int) ≤ k1) = false := by simp; omega
    obtain ⟨ks, hks⟩ : ∃ k, sgn r.num = k := ⟨_, rfl⟩
    replace hks := hide hks
    replace hk1 := hide hk1
    clear hp1 hk1l hyes hno hno2
    by_cases hs : ks ≤ 0
    · have g2 : decide (ks ≤ 0) = true := decide_eq_true hs
      have c_p0 := b_p.out.at0 b_p.out.lt_size (Nat.le_refl _) _ (Below.refl _ _)
      have c_p1 := b_p.out.at1 b_p.out.lt_size (Nat.le_refl _) _ (Below.refl _ _)
      have c_p2 := b_p.out.at2 b_p.out.lt_size (Nat.le_refl _) _ (Below.refl _ _)
      have c_q0 := b_q.out.at0 b_q.out.lt_size (Nat.le_refl _) _ (Below.refl _ _)
      have c_q1 := b_q.out.at1 b_q.out.lt_size (Nat.le_refl _) _ (Below.refl _ _)
      have c_q2 := b_q.out.at2 b_q.out.lt_size (Nat.le_refl _) _ (Below.refl _ _)
      have c_o0 := b_o.out.at0 b_o.out.lt_size (Nat.le_refl _) _ (Below.refl _ _)
      have c_o1 := b_o.out.at1 b_o.out.lt_size (Nat.le_refl _) _ (Below.refl _ _)
      have c_o2 := b_o.out.at2 b_o.out.lt_size (Nat.le_refl _) _ (Below.refl _ _)
      go_wp2_with fail
      refine (sign_q H_p.out (by decide) (Nat.le_refl _) hks.out).mono ?_
      rintro e w41 ⟨rfl, hb⟩
      replace H_p := hide (H_p.out.then_ hb)
      replace H_q := hide (H_q.out.then_ hb)
      replace H_o := hide (H_o.out.then_ hb)
      replace b_p := hide (b_p.out.keep hb)
      replace b_q := hide (b_q.out.keep hb)
      replace b_o := hide (b_o.out.keep hb)
      replace B := hide (Below.then_ B.out hb)
      clear hb
      clear c_p0 c_p1 c_p2
      clear c_q0 c_q1 c_q2
      clear c_o0 c_o1 c_o2
      have c_p0 := b_p.out.at0 b_p.out.lt_size (Nat.le_refl _) _ (Below.refl _ _)
      have c_p1 := b_p.out.at1 b_p.out.lt_size (Nat.le_refl _) _ (Below.refl _ _)
      have c_p2 := b_p.out.at2 b_p.out.lt_size (Nat.le_refl _) _ (Below.refl _ _)
      have c_q0 := b_q.out.at0 b_q.out.lt_size (Nat.le_refl _) _ (Below.refl _ _)
      have c_q1 := b_q.out.at1 b_q.out.lt_size (Nat.le_refl _) _ (Below.refl _ _)
      have c_q2 := b_q.out.at2 b_q.out.lt_size (Nat.le_refl _) _ (Below.refl _ _)
      have c_o0 := b_o.out.at0 b_o.out.lt_size (Nat.le_refl _) _ (Below.refl _ _)
      have c_o1 := b_o.out.at1 b_o.out.lt_size (Nat.le_refl _) _ (Below.refl _ _)
      have c_o2 := b_o.out.at2 b_o.out.lt_size (Nat.le_refl _) _ (Below.refl _ _)
      go_wp2_with fail
      refine (cmp_q H_p.out (by decide) H_o.out.rq (by decide) (Nat.le_refl _) hk1.out).mono ?_
      rintro e w42 ⟨rfl, hb⟩
      replace H_p := hide (H_p.out.then_ hb)
      replace H_q := hide (H_q.out.then_ hb)
      replace H_o := hide (H_o.out.then_ hb)
      replace b_p := hide (b_p.out.keep hb)
      replace b_q := hide (b_q.out.keep hb)
      replace b_o := hide (b_o.out.keep hb)
      replace B := hide (Below.then_ B.out hb)
      clear hb
      clear c_p0 c_p1 c_p2
      clear c_q0 c_q1 c_q2
      clear c_o0 c_o1 c_o2
      go_wp2_with fail
      refine (hA _).mono ?_
      rintro e w43 ⟨rfl, hb⟩
      replace H_p := hide (H_p.out.then_ hb)
      replace H_q := hide (H_q.out.then_ hb)
      replace H_o := hide (H_o.out.then_ hb)
      replace b_p := hide (b_p.out.keep hb)
      replace b_q := hide (b_q.out.keep hb)
      replace b_o := hide (b_o.out.keep hb)
      replace B := hide (Below.then_ B.out hb)
      clear hb
      go_wp2
      go_ret
      exact ⟨rfl, B.out⟩
    · have g2 : decide (ks ≤ 0) = false := decide_eq_false hs
      have c_p0 := b_p.out.at0 b_p.out.lt_size (Nat.le_refl _) _ (Below.refl _ _)
      have c_p1 := b_p.out.at1 b_p.out.lt_size (Nat.le_refl _) _ (Below.refl _ _)
      have c_p2 := b_p.out.at2 b_p.out.lt_size (Nat.le_refl _) _ (Below.refl _ _)
      have c_q0 := b_q.out.at0 b_q.out.lt_size (Nat.le_refl _) _ (Below.refl _ _)
      have c_q1 := b_q.out.at1 b_q.out.lt_size (Nat.le_refl _) _ (Below.refl _ _)
      have c_q2 := b_q.out.at2 b_q.out.lt_size (Nat.le_refl _) _ (Below.refl _ _)
      have c_o0 := b_o.out.at0 b_o.out.lt_size (Nat.le_refl _) _ (Below.refl _ _)
      have c_o1 := b_o.out.at1 b_o.out.lt_size (Nat.le_refl _) _ (Below.refl _ _)
      have c_o2 := b_o.out.at2 b_o.out.lt_size (Nat.le_refl _) _ (Below.refl _ _)
      go_wp2_with fail
      refine (sign_q H_p.out (by decide) (Nat.le_refl _) hks.out).mono ?_
      rintro e w41 ⟨rfl, hb⟩
      replace H_p := hide (H_p.out.then_ hb)
      replace H_q := hide (H_q.out.then_ hb)
      replace H_o := hide (H_o.out.then_ hb)
      replace b_p := hide (b_p.out.keep hb)
      replace b_q := hide (b_q.out.keep hb)
      replace b_o := hide (b_o.out.keep hb)
      replace B := hide (Below.then_ B.out hb)
      clear hb
      clear c_p0 c_p1 c_p2
      clear c_q0 c_q1 c_q2
      clear c_o0 c_o1 c_o2
      have c_p0 := b_p.out.at0 b_p.out.lt_size (Nat.le_refl _) _ (Below.refl _ _)
      have c_p1 := b_p.out.at1 b_p.out.lt_size (Nat.le_refl _) _ (Below.refl _ _)
      have c_p2 := b_p.out.at2 b_p.out.lt_size (Nat.le_refl _) _ (Below.refl _ _)
      have c_q0 := b_q.out.at0 b_q.out.lt_size (Nat.le_refl _) _ (Below.refl _ _)
      have c_q1 := b_q.out.at1 b_q.out.lt_size (Nat.le_refl _) _ (Below.refl _ _)
      have c_q2 := b_q.out.at2 b_q.out.lt_size (Nat.le_refl _) _ (Below.refl _ _)
      have c_o0 := b_o.out.at0 b_o.out.lt_size (Nat.le_refl _) _ (Below.refl _ _)
      have c_o1 := b_o.out.at1 b_o.out.lt_size (Nat.le_refl _) _ (Below.refl _ _)
      have c_o2 := b_o.out.at2 b_o.out.lt_size (Nat.le_refl _) _ (Below.refl _ _)
      go_wp2_with fail
      refine (cmp_q H_p.out (by decide) H_o.out.rq (by decide) (Nat.le_refl _) hk1.out).mono ?_
      rintro e w42 ⟨rfl, hb⟩
      replace H_p := hide (H_p.out.then_ hb)
      replace H_q := hide (H_q.out.then_ hb)
      replace H_o := hide (H_o.out.then_ hb)
      replace b_p := hide (b_p.out.keep hb)
      replace b_q := hide (b_q.out.keep hb)
      replace b_o := hide (b_o.out.keep hb)
      replace B := hide (Below.then_ B.out hb)
      clear hb
      clear c_p0 c_p1 c_p2
      clear c_q0 c_q1 c_q2
      clear c_o0 c_o1 c_o2
      go_wp2_with fail
      refine (hA _).mono ?_
      rintro e w43 ⟨rfl, hb⟩
      replace H_p := hide (H_p.out.then_ hb)
      replace H_q := hide (H_q.out.then_ hb)
      replace H_o := hide (H_o.out.then_ hb)
      replace b_p := hide (b_p.out.keep hb)
      replace b_q := hide (b_q.out.keep hb)
      replace b_o := hide (b_o.out.keep hb)
      replace B := hide (Below.then_ B.out hb)
      clear hb
      go_wp2
      go_ret
      exact ⟨rfl, B.out⟩
  | true =>
    have hp1 := hide (show ¬ sgn r.num ≤ 0 from sgn_gt (by have h1 := hyes.out rfl; have h2 := hch0.out; grind))
    obtain ⟨ks, hks⟩ : ∃ k, sgn r.num = k := ⟨_, rfl⟩
    have hksl := hp1.out
    rw [hks] at hksl
    have g1 : decide (ks ≤ 0) = false := decide_eq_false hksl
    obtain ⟨k1, hk1⟩ : ∃ k, sgn (r - 1).num = k := ⟨_, rfl⟩
    obtain ⟨k2, hk2⟩ : ∃ k, sgn (r - u).num = k := ⟨_, rfl⟩
    have hb2 := hide (show k2 ≤ 0 → b = true from fun h => by
      cases b with
      | true => rfl
      | false => rw [← hk2, cmp_le] at h; have h1 := hyes.out rfl; have h2 := hno2.out rfl; exact absurd h1 (by rw [Rat.not_lt]; grind))
    replace hks := hide hks
    replace hk1 := hide hk1
    replace hk2 := hide hk2
    clear hp1 hksl hyes hno hno2
    by_cases h2 : k2 ≤ 0
    · obtain rfl : b = true := hb2.out h2
      have g2 : decide (k2 ≤ 0) = true := decide_eq_true h2
      clear hb2 h2
      have c_p0 := b_p.out.at0 b_p.out.lt_size (Nat.le_refl _) _ (Below.refl _ _)
      have c_p1 := b_p.out.at1 b_p.out.lt_size (Nat.le_refl _) _ (Below.refl _ _)
      have c_p2 := b_p.out.at2 b_p.out.lt_size (Nat.le_refl _) _ (Below.refl _ _)
      have c_q0 := b_q.out.at0 b_q.out.lt_size (Nat.le_refl _) _ (Below.refl _ _)
      have c_q1 := b_q.out.at1 b_q.out.lt_size (Nat.le_refl _) _ (Below.refl _ _)
      have c_q2 := b_q.out.at2 b_q.out.lt_size (Nat.le_refl _) _ (Below.refl _ _)
      have c_o0 := b_o.out.at0 b_o.out.lt_size (Nat.le_refl _) _ (Below.refl _ _)
      have c_o1 := b_o.out.at1 b_o.out.lt_size (Nat.le_refl _) _ (Below.refl _ _)
      have c_o2 := b_o.out.at2 b_o.out.lt_size (Nat.le_refl _) _ (Below.refl _ _)
      go_wp2_with fail
      refine (cmp_q H_p.out (by decide) H_q.out (by decide) (Nat.le_refl _) hk2.out).mono ?_
      rintro e w61 ⟨rfl, hb⟩
      replace H_p := hide (H_p.out.then_ hb)
      replace H_q := hide (H_q.out.then_ hb)
      replace H_o := hide (H_o.out.then_ hb)
      replace b_p := hide (b_p.out.keep hb)
      replace b_q := hide (b_q.out.keep hb)
      replace b_o := hide (b_o.out.keep hb)
      replace B := hide (Below.then_ B.out hb)
      clear hb
      clear c_p0 c_p1 c_p2
      clear c_q0 c_q1 c_q2
      clear c_o0 c_o1 c_o2
      have c_p0 := b_p.out.at0 b_p.out.lt_size (Nat.le_refl _) _ (Below.refl _ _)
      have c_p1 := b_p.out.at1 b_p.out.lt_size (Nat.le_refl _) _ (Below.refl _ _)
      have c_p2 := b_p.out.at2 b_p.out.lt_size (Nat.le_refl _) _ (Below.refl _ _)
      have c_q0 := b_q.out.at0 b_q.out.lt_size (Nat.le_refl _) _ (Below.refl _ _)
      have c_q1 := b_q.out.at1 b_q.out.lt_size (Nat.le_refl _) _ (Below.refl _ _)
      have c_q2 := b_q.out.at2 b_q.out.lt_size (Nat.le_refl _) _ (Below.refl _ _)
      have c_o0 := b_o.out.at0 b_o.out.lt_size (Nat.le_refl _) _ (Below.refl _ _)
      have c_o1 := b_o.out.at1 b_o.out.lt_size (Nat.le_refl _) _ (Below.refl _ _)
      have c_o2 := b_o.out.at2 b_o.out.lt_size (Nat.le_refl _) _ (Below.refl _ _)
      go_wp2_with fail
      refine (sign_q H_p.out (by decide) (Nat.le_refl _) hks.out).mono ?_
      rintro e w62 ⟨rfl, hb⟩
      replace H_p := hide (H_p.out.then_ hb)
      replace H_q := hide (H_q.out.then_ hb)
      replace H_o := hide (H_o.out.then_ hb)
      replace b_p := hide (b_p.out.keep hb)
      replace b_q := hide (b_q.out.keep hb)
      replace b_o := hide (b_o.out.keep hb)
      replace B := hide (Below.then_ B.out hb)
      clear hb
      clear c_p0 c_p1 c_p2
      clear c_q0 c_q1 c_q2
      clear c_o0 c_o1 c_o2
      have c_p0 := b_p.out.at0 b_p.out.lt_size (Nat.le_refl _) _ (Below.refl _ _)
      have c_p1 := b_p.out.at1 b_p.out.lt_size (Nat.le_refl _) _ (Below.refl _ _)
      have c_p2 := b_p.out.at2 b_p.out.lt_size (Nat.le_refl _) _ (Below.refl _ _)
      have c_q0 := b_q.out.at0 b_q.out.lt_size (Nat.le_refl _) _ (Below.refl _ _)
      have c_q1 := b_q.out.at1 b_q.out.lt_size (Nat.le_refl _) _ (Below.refl _ _)
      have c_q2 := b_q.out.at2 b_q.out.lt_size (Nat.le_refl _) _ (Below.refl _ _)
      have c_o0 := b_o.out.at0 b_o.out.lt_size (Nat.le_refl _) _ (Below.refl _ _)
      have c_o1 := b_o.out.at1 b_o.out.lt_size (Nat.le_refl _) _ (Below.refl _ _)
      have c_o2 := b_o.out.at2 b_o.out.lt_size (Nat.le_refl _) _ (Below.refl _ _)
      go_wp2_with fail
      refine (cmp_q H_p.out (by decide) H_o.out.rq (by decide) (Nat.le_refl _) hk1.out).mono ?_
      rintro e w63 ⟨rfl, hb⟩
      replace H_p := hide (H_p.out.then_ hb)
      replace H_q := hide (H_q.out.then_ hb)
      replace H_o := hide (H_o.out.then_ hb)
      replace b_p := hide (b_p.out.keep hb)
      replace b_q := hide (b_q.out.keep hb)
      replace b_o := hide (b_o.out.keep hb)
      replace B := hide (Below.then_ B.out hb)
      clear hb
      clear c_p0 c_p1 c_p2
      clear c_q0 c_q1 c_q2
      clear c_o0 c_o1 c_o2
      clear b_p b_q b_o
      by_cases h3 : 0 ≤ k1
      · have g3 : decide ((0 : Int) ≤ k1) = true := decide_eq_true h3
        clear h3
        go_wp2_with fail
        refine (hA _).mono ?_
        rintro e w81 ⟨rfl, hb⟩
        replace H_p := hide (H_p.out.then_ hb)
        replace H_q := hide (H_q.out.then_ hb)
        replace H_o := hide (H_o.out.then_ hb)
        replace B := hide (Below.then_ B.out hb)
        clear hb
        go_wp2
        go_ret
        exact ⟨rfl, B.out⟩
      · have g3 : decide ((0 : Int) ≤ k1) = false := decide_eq_false h3
        clear h3
        go_wp2_with fail
        refine (hA _).mono ?_
        rintro e w81 ⟨rfl, hb⟩
        replace H_p := hide (H_p.out.then_ hb)
        replace H_q := hide (H_q.out.then_ hb)
        replace H_o := hide (H_o.out.then_ hb)
        replace B := hide (Below.then_ B.out hb)
        clear hb
        go_wp2
        go_ret
        exact ⟨rfl, B.out⟩
    · have g2 : decide (k2 ≤ 0) = false := decide_eq_false h2
      clear hb2 h2
      have c_p0 := b_p.out.at0 b_p.out.lt_size (Nat.le_refl _) _ (Below.refl _ _)
      have c_p1 := b_p.out.at1 b_p.out.lt_size (Nat.le_refl _) _ (Below.refl _ _)
      have c_p2 := b_p.out.at2 b_p.out.lt_size (Nat.le_refl _) _ (Below.refl _ _)
      have c_q0 := b_q.out.at0 b_q.out.lt_size (Nat.le_refl _) _ (Below.refl _ _)
      have c_q1 := b_q.out.at1 b_q.out.lt_size (Nat.le_refl _) _ (Below.refl _ _)
      have c_q2 := b_q.out.at2 b_q.out.lt_size (Nat.le_refl _) _ (Below.refl _ _)
      have c_o0 := b_o.out.at0 b_o.out.lt_size (Nat.le_refl _) _ (Below.refl _ _)
      have c_o1 := b_o.out.at1 b_o.out.lt_size (Nat.le_refl _) _ (Below.refl _ _)
      have c_o2 := b_o.out.at2 b_o.out.lt_size (Nat.le_refl _) _ (Below.refl _ _)
      go_wp2_with fail
      refine (cmp_q H_p.out (by decide) H_q.out (by decide) (Nat.le_refl _) hk2.out).mono ?_
      rintro e w61 ⟨rfl, hb⟩
      replace H_p := hide (H_p.out.then_ hb)
      replace H_q := hide (H_q.out.then_ hb)
      replace H_o := hide (H_o.out.then_ hb)
      replace b_p := hide (b_p.out.keep hb)
      replace b_q := hide (b_q.out.keep hb)
      replace b_o := hide (b_o.out.keep hb)
      replace B := hide (Below.then_ B.out hb)
      clear hb
      clear c_p0 c_p1 c_p2
      clear c_q0 c_q1 c_q2
      clear c_o0 c_o1 c_o2
      have c_p0 := b_p.out.at0 b_p.out.lt_size (Nat.le_refl _) _ (Below.refl _ _)
      have c_p1 := b_p.out.at1 b_p.out.lt_size (Nat.le_refl _) _ (Below.refl _ _)
      have c_p2 := b_p.out.at2 b_p.out.lt_size (Nat.le_refl _) _ (Below.refl _ _)
      have c_q0 := b_q.out.at0 b_q.out.lt_size (Nat.le_refl _) _ (Below.refl _ _)
      have c_q1 := b_q.out.at1 b_q.out.lt_size (Nat.le_refl _) _ (Below.refl _ _)
      have c_q2 := b_q.out.at2 b_q.out.lt_size (Nat.le_refl _) _ (Below.refl _ _)
      have c_o0 := b_o.out.at0 b_o.out.lt_size (Nat.le_refl _) _ (Below.refl _ _)
      have c_o1 := b_o.out.at1 b_o.out.lt_size (Nat.le_refl _) _ (Below.refl _ _)
      have c_o2 := b_o.out.at2 b_o.out.lt_size (Nat.le_refl _) _ (Below.refl _ _)
      go_wp2_with fail
      refine (sign_q H_p.out (by decide) (Nat.le_refl _) hks.out).mono ?_
      rintro e w62 ⟨rfl, hb⟩
      replace H_p := hide (H_p.out.then_ hb)
      replace H_q := hide (H_q.out.then_ hb)
      replace H_o := hide (H_o.out.then_ hb)
      replace b_p := hide (b_p.out.keep hb)
      replace b_q := hide (b_q.out.keep hb)
      replace b_o := hide (b_o.out.keep hb)
      replace B := hide (Below.then_ B.out hb)
      clear hb
      clear c_p0 c_p1 c_p2
      clear c_q0 c_q1 c_q2
      clear c_o0 c_o1 c_o2
      have c_p0 := b_p.out.at0 b_p.out.lt_size (Nat.le_refl _) _ (Below.refl _ _)
      have c_p1 := b_p.out.at1 b_p.out.lt_size (Nat.le_refl _) _ (Below.refl _ _)
      have c_p2 := b_p.out.at2 b_p.out.lt_size (Nat.le_refl _) _ (Below.refl _ _)
      have c_q0 := b_q.out.at0 b_q.out.lt_size (Nat.le_refl _) _ (Below.refl _ _)
      have c_q1 := b_q.out.at1 b_q.out.lt_size (Nat.le_refl _) _ (Below.refl _ _)
      have c_q2 := b_q.out.at2 b_q.out.lt_size (Nat.le_refl _) _ (Below.refl _ _)
      have c_o0 := b_o.out.at0 b_o.out.lt_size (Nat.le_refl _) _ (Below.refl _ _)
      have c_o1 := b_o.out.at1 b_o.out.lt_size (Nat.le_refl _) _ (Below.refl _ _)
      have c_o2 := b_o.out.at2 b_o.out.lt_size (Nat.le_refl _) _ (Below.refl _ _)
      go_wp2_with fail
      refine (cmp_q H_p.out (by decide) H_o.out.rq (by decide) (Nat.le_refl _) hk1.out).mono ?_
      rintro e w63 ⟨rfl, hb⟩
      replace H_p := hide (H_p.out.then_ hb)
      replace H_q := hide (H_q.out.then_ hb)
      replace H_o := hide (H_o.out.then_ hb)
      replace b_p := hide (b_p.out.keep hb)
      replace b_q := hide (b_q.out.keep hb)
      replace b_o := hide (b_o.out.keep hb)
      replace B := hide (Below.then_ B.out hb)
      clear hb
      clear c_p0 c_p1 c_p2
      clear c_q0 c_q1 c_q2
      clear c_o0 c_o1 c_o2
      clear b_p b_q b_o
      by_cases h3 : 0 ≤ k1
      · have g3 : decide ((0 : Int) ≤ k1) = true := decide_eq_true h3
        clear h3
        go_wp2_with fail
        refine (hA _).mono ?_
        rintro e w81 ⟨rfl, hb⟩
        replace H_p := hide (H_p.out.then_ hb)
        replace H_q := hide (H_q.out.then_ hb)
        replace H_o := hide (H_o.out.then_ hb)
        replace B := hide (Below.then_ B.out hb)
        clear hb
        go_wp2
        go_ret
        exact ⟨rfl, B.out⟩
      · have g3 : decide ((0 : Int) ≤ k1) = false := decide_eq_false h3
        clear h3
        go_wp2_with fail
        refine (hA _).mono ?_
        rintro e w81 ⟨rfl, hb⟩
        replace H_p := hide (H_p.out.then_ hb)
        replace H_q := hide (H_q.out.then_ hb)
        replace H_o := hide (H_o.out.then_ hb)
        replace B := hide (Below.then_ B.out hb)
        clear hb
        go_wp2
        go_ret
        exact ⟨rfl, B.out⟩
set_option maxHeartbeats 16000000 in
set_option maxRecDepth 100000 in
theorem ranges_less (hA : ∀ w : World, Calls Try.prog 27 #[] w (RetB w (.bool true))) {w : World} {d : Nat} {p q : Rc} {r u : Rat} (hd : d < 18446744073709551616) {n m : Int} (hn : I64 n) (hm : I64 m) (h1 : 1 ≤ n) (h2 : n ≤ 2147483648) (h : m < n) (h_p : Rq w w.heap.size 1048576 p r) (h_q : Rq w w.heap.size 1048576 q u) : Calls Try.prog 8 #[.int .u64 (d : Int), .int .i64 n, .int .i64 m, .agg #[.bool p.s, .slice p.A p.n p.c, .slice p.B p.m p.d], .agg #[.bool q.s, .slice q.A q.n q.c, .slice q.B q.m q.d]] w (RetB w (.bool true)) := by
  obtain ⟨W, hW⟩ : ∃ W, W = ((w.alloc (.cells #[.bool p.s, .slice p.A p.n p.c, .slice p.B p.m p.d] 27)).alloc (.cells #[.bool q.s, .slice q.A q.n q.c, .slice q.B q.m q.d] 27)) := ⟨_, rfl⟩
  have b_p := hide (show Box3 W (w.heap.size) (.bool p.s) (.slice p.A p.n p.c) (.slice p.B p.m p.d) by rw [hW]; exact ((Box3.new w _ _ _ rfl).al _))
  have b_q := hide (show Box3 W (w.heap.size + 1) (.bool q.s) (.slice q.A q.n q.c) (.slice q.B q.m q.d) by rw [hW]; exact (Box3.new _ _ _ _ (by simp)))
  have hwW : Below w.heap.size w W := by rw [hW]; exact (Below.al_ (Below.al_ (Below.refl _ _) _) _)
  have H_p := hide (h_p.upto hwW (Nat.le_refl _))
  clear h_p
  have H_q := hide (h_q.upto hwW (Nat.le_refl _))
  clear h_q
  have B := hide hwW
  clear hwW
  have hn0 := hn.1
  have hn1 := hn.2
  have hm0 := hm.1
  have hm1 := hm.2
  obtain ⟨k, rfl⟩ : ∃ k : Nat, n = (k : Int) := ⟨n.toNat, by omega⟩
  have d1 : decide ((k : Int) < 1) = false := by simp; omega
  have d2 : decide ((2147483648 : Int) < (k : Int)) = false := by simp; omega
  have hbn := hide (fun w => below_p (w := w) hd hn)
  have hbm := hide (fun w => below_p (w := w) hd hm)
  have hlt := bw_lt (s := d) (n := (k : Int)) (by simp only [bwB, decide_eq_true_eq]; omega)
  have hbs : bwS d (k : Int) = dnx d := bwS_nat (by omega) (by omega)
  rw [hbs] at hbn
  obtain ⟨y, hy⟩ : ∃ y, y = bwN d m := ⟨_, rfl⟩
  obtain ⟨ym, hym⟩ : ∃ y, y = bwS d m := ⟨_, rfl⟩
  obtain ⟨x, hx⟩ : ∃ x, x = bwN d (k : Int) := ⟨_, rfl⟩
  rw [← hy, ← hym] at hbm
  rw [← hx] at hbn hlt
  have d3 : decide ((x : Int) < 0) = false := by simp
  have d4 : decide ((k : Int) ≤ (x : Int)) = false := by simp; omega
  have d4' : decide (k ≤ x) = false := by simp; omega
  have d5 : decide ((k : Int) ≤ m) = false := decide_eq_false (by omega)
  clear hy hym hx hlt hbs h h1 h2 hn hm
  have hnx := hide (fun w => next_p (w := w) hd)
  have hul := dup_lt d
  have hsl := dnx_lt d
  obtain ⟨a, ha⟩ : ∃ a, chB d r = a := ⟨_, rfl⟩
  obtain ⟨b, hb'⟩ : ∃ b, chB d u = b := ⟨_, rfl⟩
  have c1 := hide (fun (v : World) (h : Rq v v.heap.size 1048576 p r) => chance_p hd h (by decide) (Nat.le_refl _))
  have c2 := hide (fun (v : World) (h : Rq v v.heap.size 1048576 q u) => chance_p hd h (by decide) (Nat.le_refl _))
  rw [ha] at c1
  rw [hb'] at c2
  have hch0 := hide (chq_ge (s := d))
  have hch1 := hide (chq_lt (s := d))
  have hyes := hide (fun (e : chB d r = true) => chq_yes e)
  have hno := hide (fun (e : chB d r = false) => chq_no e)
  have hno2 := hide (fun (e : chB d u = false) => chq_no e)
  rw [ha] at hyes hno
  rw [hb'] at hno2
  obtain ⟨t, ht⟩ : ∃ t, t = dnx d := ⟨_, rfl⟩
  rw [← ht] at hnx hsl c1 c2 hbn
  obtain ⟨x0, hx0⟩ : ∃ x, x = dup d := ⟨_, rfl⟩
  rw [← hx0] at hnx hul
  clear ht ha hb' hx0
  go_enter Try.func8, Try.ntmps8
  go_wp2_with fail
  rw [← hW]
  clear hW
  refine (hnx.out _).mono ?_
  rintro e w1 ⟨rfl, hb⟩
  replace H_p := hide (H_p.out.then_ hb)
  replace H_q := hide (H_q.out.then_ hb)
  replace b_p := hide (b_p.out.keep hb)
  replace b_q := hide (b_q.out.keep hb)
  replace B := hide (Below.then_ B.out hb)
  clear hb
  go_wp2_with fail
  refine (hbn.out _).mono ?_
  rintro e w2 ⟨rfl, hb⟩
  replace H_p := hide (H_p.out.then_ hb)
  replace H_q := hide (H_q.out.then_ hb)
  replace b_p := hide (b_p.out.keep hb)
  replace b_q := hide (b_q.out.keep hb)
  replace B := hide (Below.then_ B.out hb)
  clear hb
  go_wp2_with fail
  refine (hbm.out _).mono ?_
  rintro e w3 ⟨rfl, hb⟩
  replace H_p := hide (H_p.out.then_ hb)
  replace H_q := hide (H_q.out.then_ hb)
  replace b_p := hide (b_p.out.keep hb)
  replace b_q := hide (b_q.out.keep hb)
  replace B := hide (Below.then_ B.out hb)
  clear hb
  go_wp2_with fail
  refine (of11d _).mono ?_
  rintro e w4 ⟨x_o, rfl, H_o, hb⟩
  replace H_p := hide (H_p.out.then_ hb)
  replace H_q := hide (H_q.out.then_ hb)
  replace b_p := hide (b_p.out.keep hb)
  replace b_q := hide (b_q.out.keep hb)
  replace B := hide (Below.then_ B.out hb)
  clear hb
  replace H_o := hide H_o
  have b_o := hide (Box3.new w4 (.bool x_o.s) (.slice x_o.A x_o.n x_o.c) (.slice x_o.B x_o.m x_o.d) rfl)
  have hb : Below w4.heap.size w4 (w4.alloc (.cells #[.bool x_o.s, .slice x_o.A x_o.n x_o.c, .slice x_o.B x_o.m x_o.d] 27)) := Below.al_ (Below.refl _ _) _
  replace H_p := hide (H_p.out.then_ hb)
  replace H_q := hide (H_q.out.then_ hb)
  replace H_o := hide (H_o.out.then_ hb)
  replace b_p := hide (b_p.out.keep hb)
  replace b_q := hide (b_q.out.keep hb)
  replace B := hide (Below.then_ B.out hb)
  clear hb
  have c_p0 := b_p.out.at0 b_p.out.lt_size (Nat.le_refl _) _ (Below.refl _ _)
  have c_p1 := b_p.out.at1 b_p.out.lt_size (Nat.le_refl _) _ (Below.refl _ _)
  have c_p2 := b_p.out.at2 b_p.out.lt_size (Nat.le_refl _) _ (Below.refl _ _)
  have c_q0 := b_q.out.at0 b_q.out.lt_size (Nat.le_refl _) _ (Below.refl _ _)
  have c_q1 := b_q.out.at1 b_q.out.lt_size (Nat.le_refl _) _ (Below.refl _ _)
  have c_q2 := b_q.out.at2 b_q.out.lt_size (Nat.le_refl _) _ (Below.refl _ _)
  have c_o0 := b_o.out.at0 b_o.out.lt_size (Nat.le_refl _) _ (Below.refl _ _)
  have c_o1 := b_o.out.at1 b_o.out.lt_size (Nat.le_refl _) _ (Below.refl _ _)
  have c_o2 := b_o.out.at2 b_o.out.lt_size (Nat.le_refl _) _ (Below.refl _ _)
  go_wp2_with fail
  refine (c1.out _ H_p.out).mono ?_
  rintro e w5 ⟨rfl, hb⟩
  replace H_p := hide (H_p.out.then_ hb)
  replace H_q := hide (H_q.out.then_ hb)
  replace H_o := hide (H_o.out.then_ hb)
  replace b_p := hide (b_p.out.keep hb)
  replace b_q := hide (b_q.out.keep hb)
  replace b_o := hide (b_o.out.keep hb)
  replace B := hide (Below.then_ B.out hb)
  clear hb
  clear c_p0 c_p1 c_p2
  clear c_q0 c_q1 c_q2
  clear c_o0 c_o1 c_o2
  have c_p0 := b_p.out.at0 b_p.out.lt_size (Nat.le_refl _) _ (Below.refl _ _)
  have c_p1 := b_p.out.at1 b_p.out.lt_size (Nat.le_refl _) _ (Below.refl _ _)
  have c_p2 := b_p.out.at2 b_p.out.lt_size (Nat.le_refl _) _ (Below.refl _ _)
  have c_q0 := b_q.out.at0 b_q.out.lt_size (Nat.le_refl _) _ (Below.refl _ _)
  have c_q1 := b_q.out.at1 b_q.out.lt_size (Nat.le_refl _) _ (Below.refl _ _)
  have c_q2 := b_q.out.at2 b_q.out.lt_size (Nat.le_refl _) _ (Below.refl _ _)
  have c_o0 := b_o.out.at0 b_o.out.lt_size (Nat.le_refl _) _ (Below.refl _ _)
  have c_o1 := b_o.out.at1 b_o.out.lt_size (Nat.le_refl _) _ (Below.refl _ _)
  have c_o2 := b_o.out.at2 b_o.out.lt_size (Nat.le_refl _) _ (Below.refl _ _)
  go_wp2_with fail
  refine (c2.out _ H_q.out).mono ?_
  rintro e w6 ⟨rfl, hb⟩
  replace H_p := hide (H_p.out.then_ hb)
  replace H_q := hide (H_q.out.then_ hb)
  replace H_o := hide (H_o.out.then_ hb)
  replace b_p := hide (b_p.out.keep hb)
  replace b_q := hide (b_q.out.keep hb)
  replace b_o := hide (b_o.out.keep hb)
  replace B := hide (Below.then_ B.out hb)
  clear hb
  clear c_p0 c_p1 c_p2
  clear c_q0 c_q1 c_q2
  clear c_o0 c_o1 c_o2
  cases a with
  | false =>
    have hp1 := hide (show sgn (r - 1).num < 0 from cmp_lt.2 (by have h1 := hno.out rfl; have h2 := hch1.out; grind))
    obtain ⟨k1, hk1⟩ : ∃ k, sgn (r - 1).num = k := ⟨_, rfl⟩
    have hk1l := hp1.out
    rw [hk1] at hk1l
    have g1 : decide ((0 : Int) ≤ k1) = false := by simp; omega
    obtain ⟨ks, hks⟩ : ∃ k, sgn r.num = k := ⟨_, rfl⟩
    replace hks := hide hks
    replace hk1 := hide hk1
    clear hp1 hk1l hyes hno hno2
    by_cases hs : ks ≤ 0
    · have g2 : decide (ks ≤ 0) = true := decide_eq_true hs
      have c_p0 := b_p.out.at0 b_p.out.lt_size (Nat.le_refl _) _ (Below.refl _ _)
      have c_p1 := b_p.out.at1 b_p.out.lt_size (Nat.le_refl _) _ (Below.refl _ _)
      have c_p2 := b_p.out.at2 b_p.out.lt_size (Nat.le_refl _) _ (Below.refl _ _)
      have c_q0 := b_q.out.at0 b_q.out.lt_size (Nat.le_refl _) _ (Below.refl _ _)
      have c_q1 := b_q.out.at1 b_q.out.lt_size (Nat.le_refl _) _ (Below.refl _ _)
      have c_q2 := b_q.out.at2 b_q.out.lt_size (Nat.le_refl _) _ (Below.refl _ _)
      have c_o0 := b_o.out.at0 b_o.out.lt_size (Nat.le_refl _) _ (Below.refl _ _)
      have c_o1 := b_o.out.at1 b_o.out.lt_size (Nat.le_refl _) _ (Below.refl _ _)
      have c_o2 := b_o.out.at2 b_o.out.lt_size (Nat.le_refl _) _ (Below.refl _ _)
      go_wp2_with fail
      refine (sign_q H_p.out (by decide) (Nat.le_refl _) hks.out).mono ?_
      rintro e w41 ⟨rfl, hb⟩
      replace H_p := hide (H_p.out.then_ hb)
      replace H_q := hide (H_q.out.then_ hb)
      replace H_o := hide (H_o.out.then_ hb)
      replace b_p := hide (b_p.out.keep hb)
      replace b_q := hide (b_q.out.keep hb)
      replace b_o := hide (b_o.out.keep hb)
      replace B := hide (Below.then_ B.out hb)
      clear hb
      clear c_p0 c_p1 c_p2
      clear c_q0 c_q1 c_q2
      clear c_o0 c_o1 c_o2
      have c_p0 := b_p.out.at0 b_p.out.lt_size (Nat.le_refl _) _ (Below.refl _ _)
      have c_p1 := b_p.out.at1 b_p.out.lt_size (Nat.le_refl _) _ (Below.refl _ _)
      have c_p2 := b_p.out.at2 b_p.out.lt_size (Nat.le_refl _) _ (Below.refl _ _)
      have c_q0 := b_q.out.at0 b_q.out.lt_size (Nat.le_refl _) _ (Below.refl _ _)
      have c_q1 := b_q.out.at1 b_q.out.lt_size (Nat.le_refl _) _ (Below.refl _ _)
      have c_q2 := b_q.out.at2 b_q.out.lt_size (Nat.le_refl _) _ (Below.refl _ _)
      have c_o0 := b_o.out.at0 b_o.out.lt_size (Nat.le_refl _) _ (Below.refl _ _)
      have c_o1 := b_o.out.at1 b_o.out.lt_size (Nat.le_refl _) _ (Below.refl _ _)
      have c_o2 := b_o.out.at2 b_o.out.lt_size (Nat.le_refl _) _ (Below.refl _ _)
      go_wp2_with fail
      refine (cmp_q H_p.out (by decide) H_o.out.rq (by decide) (Nat.le_refl _) hk1.out).mono ?_
      rintro e w42 ⟨rfl, hb⟩
      replace H_p := hide (H_p.out.then_ hb)
      replace H_q := hide (H_q.out.then_ hb)
      replace H_o := hide (H_o.out.then_ hb)
      replace b_p := hide (b_p.out.keep hb)
      replace b_q := hide (b_q.out.keep hb)
      replace b_o := hide (b_o.out.keep hb)
      replace B := hide (Below.then_ B.out hb)
      clear hb
      clear c_p0 c_p1 c_p2
      clear c_q0 c_q1 c_q2
      clear c_o0 c_o1 c_o2
      go_wp2_with fail
      refine (hA _).mono ?_
      rintro e w43 ⟨rfl, hb⟩
      replace H_p := hide (H_p.out.then_ hb)
      replace H_q := hide (H_q.out.then_ hb)
      replace H_o := hide (H_o.out.then_ hb)
      replace b_p := hide (b_p.out.keep hb)
      replace b_q := hide (b_q.out.keep hb)
      replace b_o := hide (b_o.out.keep hb)
      replace B := hide (Below.then_ B.out hb)
      clear hb
      go_wp2
      go_ret
      exact ⟨rfl, B.out⟩
    · have g2 : decide (ks ≤ 0) = false := decide_eq_false hs
      have c_p0 := b_p.out.at0 b_p.out.lt_size (Nat.le_refl _) _ (Below.refl _ _)
      have c_p1 := b_p.out.at1 b_p.out.lt_size (Nat.le_refl _) _ (Below.refl _ _)
      have c_p2 := b_p.out.at2 b_p.out.lt_size (Nat.le_refl _) _ (Below.refl _ _)
      have c_q0 := b_q.out.at0 b_q.out.lt_size (Nat.le_refl _) _ (Below.refl _ _)
      have c_q1 := b_q.out.at1 b_q.out.lt_size (Nat.le_refl _) _ (Below.refl _ _)
      have c_q2 := b_q.out.at2 b_q.out.lt_size (Nat.le_refl _) _ (Below.refl _ _)
      have c_o0 := b_o.out.at0 b_o.out.lt_size (Nat.le_refl _) _ (Below.refl _ _)
      have c_o1 := b_o.out.at1 b_o.out.lt_size (Nat.le_refl _) _ (Below.refl _ _)
      have c_o2 := b_o.out.at2 b_o.out.lt_size (Nat.le_refl _) _ (Below.refl _ _)
      go_wp2_with fail
      refine (sign_q H_p.out (by decide) (Nat.le_refl _) hks.out).mono ?_
      rintro e w41 ⟨rfl, hb⟩
      replace H_p := hide (H_p.out.then_ hb)
      replace H_q := hide (H_q.out.then_ hb)
      replace H_o := hide (H_o.out.then_ hb)
      replace b_p := hide (b_p.out.keep hb)
      replace b_q := hide (b_q.out.keep hb)
      replace b_o := hide (b_o.out.keep hb)
      replace B := hide (Below.then_ B.out hb)
      clear hb
      clear c_p0 c_p1 c_p2
      clear c_q0 c_q1 c_q2
      clear c_o0 c_o1 c_o2
      have c_p0 := b_p.out.at0 b_p.out.lt_size (Nat.le_refl _) _ (Below.refl _ _)
      have c_p1 := b_p.out.at1 b_p.out.lt_size (Nat.le_refl _) _ (Below.refl _ _)
      have c_p2 := b_p.out.at2 b_p.out.lt_size (Nat.le_refl _) _ (Below.refl _ _)
      have c_q0 := b_q.out.at0 b_q.out.lt_size (Nat.le_refl _) _ (Below.refl _ _)
      have c_q1 := b_q.out.at1 b_q.out.lt_size (Nat.le_refl _) _ (Below.refl _ _)
      have c_q2 := b_q.out.at2 b_q.out.lt_size (Nat.le_refl _) _ (Below.refl _ _)
      have c_o0 := b_o.out.at0 b_o.out.lt_size (Nat.le_refl _) _ (Below.refl _ _)
      have c_o1 := b_o.out.at1 b_o.out.lt_size (Nat.le_refl _) _ (Below.refl _ _)
      have c_o2 := b_o.out.at2 b_o.out.lt_size (Nat.le_refl _) _ (Below.refl _ _)
      go_wp2_with fail
      refine (cmp_q H_p.out (by decide) H_o.out.rq (by decide) (Nat.le_refl _) hk1.out).mono ?_
      rintro e w42 ⟨rfl, hb⟩
      replace H_p := hide (H_p.out.then_ hb)
      replace H_q := hide (H_q.out.then_ hb)
      replace H_o := hide (H_o.out.then_ hb)
      replace b_p := hide (b_p.out.keep hb)
      replace b_q := hide (b_q.out.keep hb)
      replace b_o := hide (b_o.out.keep hb)
      replace B := hide (Below.then_ B.out hb)
      clear hb
      clear c_p0 c_p1 c_p2
      clear c_q0 c_q1 c_q2
      clear c_o0 c_o1 c_o2
      go_wp2_with fail
      refine (hA _).mono ?_
      rintro e w43 ⟨rfl, hb⟩
      replace H_p := hide (H_p.out.then_ hb)
      replace H_q := hide (H_q.out.then_ hb)
      replace H_o := hide (H_o.out.then_ hb)
      replace b_p := hide (b_p.out.keep hb)
      replace b_q := hide (b_q.out.keep hb)
      replace b_o := hide (b_o.out.keep hb)
      replace B := hide (Below.then_ B.out hb)
      clear hb
      go_wp2
      go_ret
      exact ⟨rfl, B.out⟩
  | true =>
    have hp1 := hide (show ¬ sgn r.num ≤ 0 from sgn_gt (by have h1 := hyes.out rfl; have h2 := hch0.out; grind))
    obtain ⟨ks, hks⟩ : ∃ k, sgn r.num = k := ⟨_, rfl⟩
    have hksl := hp1.out
    rw [hks] at hksl
    have g1 : decide (ks ≤ 0) = false := decide_eq_false hksl
    obtain ⟨k1, hk1⟩ : ∃ k, sgn (r - 1).num = k := ⟨_, rfl⟩
    obtain ⟨k2, hk2⟩ : ∃ k, sgn (r - u).num = k := ⟨_, rfl⟩
    have hb2 := hide (show k2 ≤ 0 → b = true from fun h => by
      cases b with
      | true => rfl
      | false => rw [← hk2, cmp_le] at h; have h1 := hyes.out rfl; have h2 := hno2.out rfl; exact absurd h1 (by rw [Rat.not_lt]; grind))
    replace hks := hide hks
    replace hk1 := hide hk1
    replace hk2 := hide hk2
    clear hp1 hksl hyes hno hno2
    by_cases h2 : k2 ≤ 0
    · obtain rfl : b = true := hb2.out h2
      have g2 : decide (k2 ≤ 0) = true := decide_eq_true h2
      clear hb2 h2
      have c_p0 := b_p.out.at0 b_p.out.lt_size (Nat.le_refl _) _ (Below.refl _ _)
      have c_p1 := b_p.out.at1 b_p.out.lt_size (Nat.le_refl _) _ (Below.refl _ _)
      have c_p2 := b_p.out.at2 b_p.out.lt_size (Nat.le_refl _) _ (Below.refl _ _)
      have c_q0 := b_q.out.at0 b_q.out.lt_size (Nat.le_refl _) _ (Below.refl _ _)
      have c_q1 := b_q.out.at1 b_q.out.lt_size (Nat.le_refl _) _ (Below.refl _ _)
      have c_q2 := b_q.out.at2 b_q.out.lt_size (Nat.le_refl _) _ (Below.refl _ _)
      have c_o0 := b_o.out.at0 b_o.out.lt_size (Nat.le_refl _) _ (Below.refl _ _)
      have c_o1 := b_o.out.at1 b_o.out.lt_size (Nat.le_refl _) _ (Below.refl _ _)
      have c_o2 := b_o.out.at2 b_o.out.lt_size (Nat.le_refl _) _ (Below.refl _ _)
      go_wp2_with fail
      refine (cmp_q H_p.out (by decide) H_q.out (by decide) (Nat.le_refl _) hk2.out).mono ?_
      rintro e w61 ⟨rfl, hb⟩
      replace H_p := hide (H_p.out.then_ hb)
      replace H_q := hide (H_q.out.then_ hb)
      replace H_o := hide (H_o.out.then_ hb)
      replace b_p := hide (b_p.out.keep hb)
      replace b_q := hide (b_q.out.keep hb)
      replace b_o := hide (b_o.out.keep hb)
      replace B := hide (Below.then_ B.out hb)
      clear hb
      clear c_p0 c_p1 c_p2
      clear c_q0 c_q1 c_q2
      clear c_o0 c_o1 c_o2
      have c_p0 := b_p.out.at0 b_p.out.lt_size (Nat.le_refl _) _ (Below.refl _ _)
      have c_p1 := b_p.out.at1 b_p.out.lt_size (Nat.le_refl _) _ (Below.refl _ _)
      have c_p2 := b_p.out.at2 b_p.out.lt_size (Nat.le_refl _) _ (Below.refl _ _)
      have c_q0 := b_q.out.at0 b_q.out.lt_size (Nat.le_refl _) _ (Below.refl _ _)
      have c_q1 := b_q.out.at1 b_q.out.lt_size (Nat.le_refl _) _ (Below.refl _ _)
      have c_q2 := b_q.out.at2 b_q.out.lt_size (Nat.le_refl _) _ (Below.refl _ _)
      have c_o0 := b_o.out.at0 b_o.out.lt_size (Nat.le_refl _) _ (Below.refl _ _)
      have c_o1 := b_o.out.at1 b_o.out.lt_size (Nat.le_refl _) _ (Below.refl _ _)
      have c_o2 := b_o.out.at2 b_o.out.lt_size (Nat.le_refl _) _ (Below.refl _ _)
      go_wp2_with fail
      refine (sign_q H_p.out (by decide) (Nat.le_refl _) hks.out).mono ?_
      rintro e w62 ⟨rfl, hb⟩
      replace H_p := hide (H_p.out.then_ hb)
      replace H_q := hide (H_q.out.then_ hb)
      replace H_o := hide (H_o.out.then_ hb)
      replace b_p := hide (b_p.out.keep hb)
      replace b_q := hide (b_q.out.keep hb)
      replace b_o := hide (b_o.out.keep hb)
      replace B := hide (Below.then_ B.out hb)
      clear hb
      clear c_p0 c_p1 c_p2
      clear c_q0 c_q1 c_q2
      clear c_o0 c_o1 c_o2
      have c_p0 := b_p.out.at0 b_p.out.lt_size (Nat.le_refl _) _ (Below.refl _ _)
      have c_p1 := b_p.out.at1 b_p.out.lt_size (Nat.le_refl _) _ (Below.refl _ _)
      have c_p2 := b_p.out.at2 b_p.out.lt_size (Nat.le_refl _) _ (Below.refl _ _)
      have c_q0 := b_q.out.at0 b_q.out.lt_size (Nat.le_refl _) _ (Below.refl _ _)
      have c_q1 := b_q.out.at1 b_q.out.lt_size (Nat.le_refl _) _ (Below.refl _ _)
      have c_q2 := b_q.out.at2 b_q.out.lt_size (Nat.le_refl _) _ (Below.refl _ _)
      have c_o0 := b_o.out.at0 b_o.out.lt_size (Nat.le_refl _) _ (Below.refl _ _)
      have c_o1 := b_o.out.at1 b_o.out.lt_size (Nat.le_refl _) _ (Below.refl _ _)
      have c_o2 := b_o.out.at2 b_o.out.lt_size (Nat.le_refl _) _ (Below.refl _ _)
      go_wp2_with fail
      refine (cmp_q H_p.out (by decide) H_o.out.rq (by decide) (Nat.le_refl _) hk1.out).mono ?_
      rintro e w63 ⟨rfl, hb⟩
      replace H_p := hide (H_p.out.then_ hb)
      replace H_q := hide (H_q.out.then_ hb)
      replace H_o := hide (H_o.out.then_ hb)
      replace b_p := hide (b_p.out.keep hb)
      replace b_q := hide (b_q.out.keep hb)
      replace b_o := hide (b_o.out.keep hb)
      replace B := hide (Below.then_ B.out hb)
      clear hb
      clear c_p0 c_p1 c_p2
      clear c_q0 c_q1 c_q2
      clear c_o0 c_o1 c_o2
      clear b_p b_q b_o
      by_cases h3 : 0 ≤ k1
      · have g3 : decide ((0 : Int) ≤ k1) = true := decide_eq_true h3
        clear h3
        go_wp2_with fail
        refine (hA _).mono ?_
        rintro e w81 ⟨rfl, hb⟩
        replace H_p := hide (H_p.out.then_ hb)
        replace H_q := hide (H_q.out.then_ hb)
        replace H_o := hide (H_o.out.then_ hb)
        replace B := hide (Below.then_ B.out hb)
        clear hb
        go_wp2
        go_ret
        exact ⟨rfl, B.out⟩
      · have g3 : decide ((0 : Int) ≤ k1) = false := decide_eq_false h3
        clear h3
        go_wp2_with fail
        refine (hA _).mono ?_
        rintro e w81 ⟨rfl, hb⟩
        replace H_p := hide (H_p.out.then_ hb)
        replace H_q := hide (H_q.out.then_ hb)
        replace H_o := hide (H_o.out.then_ hb)
        replace B := hide (Below.then_ B.out hb)
        clear hb
        go_wp2
        go_ret
        exact ⟨rfl, B.out⟩
    · have g2 : decide (k2 ≤ 0) = false := decide_eq_false h2
      clear hb2 h2
      have c_p0 := b_p.out.at0 b_p.out.lt_size (Nat.le_refl _) _ (Below.refl _ _)
      have c_p1 := b_p.out.at1 b_p.out.lt_size (Nat.le_refl _) _ (Below.refl _ _)
      have c_p2 := b_p.out.at2 b_p.out.lt_size (Nat.le_refl _) _ (Below.refl _ _)
      have c_q0 := b_q.out.at0 b_q.out.lt_size (Nat.le_refl _) _ (Below.refl _ _)
      have c_q1 := b_q.out.at1 b_q.out.lt_size (Nat.le_refl _) _ (Below.refl _ _)
      have c_q2 := b_q.out.at2 b_q.out.lt_size (Nat.le_refl _) _ (Below.refl _ _)
      have c_o0 := b_o.out.at0 b_o.out.lt_size (Nat.le_refl _) _ (Below.refl _ _)
      have c_o1 := b_o.out.at1 b_o.out.lt_size (Nat.le_refl _) _ (Below.refl _ _)
      have c_o2 := b_o.out.at2 b_o.out.lt_size (Nat.le_refl _) _ (Below.refl _ _)
      go_wp2_with fail
      refine (cmp_q H_p.out (by decide) H_q.out (by decide) (Nat.le_refl _) hk2.out).mono ?_
      rintro e w61 ⟨rfl, hb⟩
      replace H_p := hide (H_p.out.then_ hb)
      replace H_q := hide (H_q.out.then_ hb)
      replace H_o := hide (H_o.out.then_ hb)
      replace b_p := hide (b_p.out.keep hb)
      replace b_q := hide (b_q.out.keep hb)
      replace b_o := hide (b_o.out.keep hb)
      replace B := hide (Below.then_ B.out hb)
      clear hb
      clear c_p0 c_p1 c_p2
      clear c_q0 c_q1 c_q2
      clear c_o0 c_o1 c_o2
      have c_p0 := b_p.out.at0 b_p.out.lt_size (Nat.le_refl _) _ (Below.refl _ _)
      have c_p1 := b_p.out.at1 b_p.out.lt_size (Nat.le_refl _) _ (Below.refl _ _)
      have c_p2 := b_p.out.at2 b_p.out.lt_size (Nat.le_refl _) _ (Below.refl _ _)
      have c_q0 := b_q.out.at0 b_q.out.lt_size (Nat.le_refl _) _ (Below.refl _ _)
      have c_q1 := b_q.out.at1 b_q.out.lt_size (Nat.le_refl _) _ (Below.refl _ _)
      have c_q2 := b_q.out.at2 b_q.out.lt_size (Nat.le_refl _) _ (Below.refl _ _)
      have c_o0 := b_o.out.at0 b_o.out.lt_size (Nat.le_refl _) _ (Below.refl _ _)
      have c_o1 := b_o.out.at1 b_o.out.lt_size (Nat.le_refl _) _ (Below.refl _ _)
      have c_o2 := b_o.out.at2 b_o.out.lt_size (Nat.le_refl _) _ (Below.refl _ _)
      go_wp2_with fail
      refine (sign_q H_p.out (by decide) (Nat.le_refl _) hks.out).mono ?_
      rintro e w62 ⟨rfl, hb⟩
      replace H_p := hide (H_p.out.then_ hb)
      replace H_q := hide (H_q.out.then_ hb)
      replace H_o := hide (H_o.out.then_ hb)
      replace b_p := hide (b_p.out.keep hb)
      replace b_q := hide (b_q.out.keep hb)
      replace b_o := hide (b_o.out.keep hb)
      replace B := hide (Below.then_ B.out hb)
      clear hb
      clear c_p0 c_p1 c_p2
      clear c_q0 c_q1 c_q2
      clear c_o0 c_o1 c_o2
      have c_p0 := b_p.out.at0 b_p.out.lt_size (Nat.le_refl _) _ (Below.refl _ _)
      have c_p1 := b_p.out.at1 b_p.out.lt_size (Nat.le_refl _) _ (Below.refl _ _)
      have c_p2 := b_p.out.at2 b_p.out.lt_size (Nat.le_refl _) _ (Below.refl _ _)
      have c_q0 := b_q.out.at0 b_q.out.lt_size (Nat.le_refl _) _ (Below.refl _ _)
      have c_q1 := b_q.out.at1 b_q.out.lt_size (Nat.le_refl _) _ (Below.refl _ _)
      have c_q2 := b_q.out.at2 b_q.out.lt_size (Nat.le_refl _) _ (Below.refl _ _)
      have c_o0 := b_o.out.at0 b_o.out.lt_size (Nat.le_refl _) _ (Below.refl _ _)
      have c_o1 := b_o.out.at1 b_o.out.lt_size (Nat.le_refl _) _ (Below.refl _ _)
      have c_o2 := b_o.out.at2 b_o.out.lt_size (Nat.le_refl _) _ (Below.refl _ _)
      go_wp2_with fail
      refine (cmp_q H_p.out (by decide) H_o.out.rq (by decide) (Nat.le_refl _) hk1.out).mono ?_
      rintro e w63 ⟨rfl, hb⟩
      replace H_p := hide (H_p.out.then_ hb)
      replace H_q := hide (H_q.out.then_ hb)
      replace H_o := hide (H_o.out.then_ hb)
      replace b_p := hide (b_p.out.keep hb)
      replace b_q := hide (b_q.out.keep hb)
      replace b_o := hide (b_o.out.keep hb)
      replace B := hide (Below.then_ B.out hb)
      clear hb
      clear c_p0 c_p1 c_p2
      clear c_q0 c_q1 c_q2
      clear c_o0 c_o1 c_o2
      clear b_p b_q b_o
      by_cases h3 : 0 ≤ k1
      · have g3 : decide ((0 : Int) ≤ k1) = true := decide_eq_true h3
        clear h3
        go_wp2_with fail
        refine (hA _).mono ?_
        rintro e w81 ⟨rfl, hb⟩
        replace H_p := hide (H_p.out.then_ hb)
        replace H_q := hide (H_q.out.then_ hb)
        replace H_o := hide (H_o.out.then_ hb)
        replace B := hide (Below.then_ B.out hb)
        clear hb
        go_wp2
        go_ret
        exact ⟨rfl, B.out⟩
      · have g3 : decide ((0 : Int) ≤ k1) = false := decide_eq_false h3
        clear h3
        go_wp2_with fail
        refine (hA _).mono ?_
        rintro e w81 ⟨rfl, hb⟩
        replace H_p := hide (H_p.out.then_ hb)
        replace H_q := hide (H_q.out.then_ hb)
        replace H_o := hide (H_o.out.then_ hb)
        replace B := hide (Below.then_ B.out hb)
        clear hb
        go_wp2
        go_ret
        exact ⟨rfl, B.out⟩
set_option maxHeartbeats 16000000 in
set_option maxRecDepth 100000 in
theorem ranges_much (hA : ∀ w : World, Calls Try.prog 27 #[] w (RetB w (.bool true))) {w : World} {d : Nat} {p q : Rc} {r u : Rat} (hd : d < 18446744073709551616) {n m : Int} (hn : I64 n) (hm : I64 m) (h1 : 1 ≤ n) (h2 : n ≤ 2147483648) (h : n ≤ m) (h3 : 2147483648 < m) (h_p : Rq w w.heap.size 1048576 p r) (h_q : Rq w w.heap.size 1048576 q u) : Calls Try.prog 8 #[.int .u64 (d : Int), .int .i64 n, .int .i64 m, .agg #[.bool p.s, .slice p.A p.n p.c, .slice p.B p.m p.d], .agg #[.bool q.s, .slice q.A q.n q.c, .slice q.B q.m q.d]] w (RetB w (.bool true)) := by
  obtain ⟨W, hW⟩ : ∃ W, W = ((w.alloc (.cells #[.bool p.s, .slice p.A p.n p.c, .slice p.B p.m p.d] 27)).alloc (.cells #[.bool q.s, .slice q.A q.n q.c, .slice q.B q.m q.d] 27)) := ⟨_, rfl⟩
  have b_p := hide (show Box3 W (w.heap.size) (.bool p.s) (.slice p.A p.n p.c) (.slice p.B p.m p.d) by rw [hW]; exact ((Box3.new w _ _ _ rfl).al _))
  have b_q := hide (show Box3 W (w.heap.size + 1) (.bool q.s) (.slice q.A q.n q.c) (.slice q.B q.m q.d) by rw [hW]; exact (Box3.new _ _ _ _ (by simp)))
  have hwW : Below w.heap.size w W := by rw [hW]; exact (Below.al_ (Below.al_ (Below.refl _ _) _) _)
  have H_p := hide (h_p.upto hwW (Nat.le_refl _))
  clear h_p
  have H_q := hide (h_q.upto hwW (Nat.le_refl _))
  clear h_q
  have B := hide hwW
  clear hwW
  have hn0 := hn.1
  have hn1 := hn.2
  have hm0 := hm.1
  have hm1 := hm.2
  obtain ⟨k, rfl⟩ : ∃ k : Nat, n = (k : Int) := ⟨n.toNat, by omega⟩
  have d1 : decide ((k : Int) < 1) = false := by simp; omega
  have d2 : decide ((2147483648 : Int) < (k : Int)) = false := by simp; omega
  have hbn := hide (fun w => below_p (w := w) hd hn)
  have hbm := hide (fun w => below_p (w := w) hd hm)
  have hlt := bw_lt (s := d) (n := (k : Int)) (by simp only [bwB, decide_eq_true_eq]; omega)
  have hbs : bwS d (k : Int) = dnx d := bwS_nat (by omega) (by omega)
  rw [hbs] at hbn
  obtain ⟨y, hy⟩ : ∃ y, y = bwN d m := ⟨_, rfl⟩
  obtain ⟨ym, hym⟩ : ∃ y, y = bwS d m := ⟨_, rfl⟩
  obtain ⟨x, hx⟩ : ∃ x, x = bwN d (k : Int) := ⟨_, rfl⟩
  rw [← hy, ← hym] at hbm
  rw [← hx] at hbn hlt
  have d3 : decide ((x : Int) < 0) = false := by simp
  have d4 : decide ((k : Int) ≤ (x : Int)) = false := by simp; omega
  have d4' : decide (k ≤ x) = false := by simp; omega
  have d5 : decide ((k : Int) ≤ m) = true := decide_eq_true (by omega)
  have d6 : decide (m ≤ 2147483648) = false := decide_eq_false (by omega)
  clear hy hym hx hlt hbs h h1 h2 h3 hn hm
  have hnx := hide (fun w => next_p (w := w) hd)
  have hul := dup_lt d
  have hsl := dnx_lt d
  obtain ⟨a, ha⟩ : ∃ a, chB d r = a := ⟨_, rfl⟩
  obtain ⟨b, hb'⟩ : ∃ b, chB d u = b := ⟨_, rfl⟩
  have c1 := hide (fun (v : World) (h : Rq v v.heap.size 1048576 p r) => chance_p hd h (by decide) (Nat.le_refl _))
  have c2 := hide (fun (v : World) (h : Rq v v.heap.size 1048576 q u) => chance_p hd h (by decide) (Nat.le_refl _))
  rw [ha] at c1
  rw [hb'] at c2
  have hch0 := hide (chq_ge (s := d))
  have hch1 := hide (chq_lt (s := d))
  have hyes := hide (fun (e : chB d r = true) => chq_yes e)
  have hno := hide (fun (e : chB d r = false) => chq_no e)
  have hno2 := hide (fun (e : chB d u = false) => chq_no e)
  rw [ha] at hyes hno
  rw [hb'] at hno2
  obtain ⟨t, ht⟩ : ∃ t, t = dnx d := ⟨_, rfl⟩
  rw [← ht] at hnx hsl c1 c2 hbn
  obtain ⟨x0, hx0⟩ : ∃ x, x = dup d := ⟨_, rfl⟩
  rw [← hx0] at hnx hul
  clear ht ha hb' hx0
  go_enter Try.func8, Try.ntmps8
  go_wp2_with fail
  rw [← hW]
  clear hW
  refine (hnx.out _).mono ?_
  rintro e w1 ⟨rfl, hb⟩
  replace H_p := hide (H_p.out.then_ hb)
  replace H_q := hide (H_q.out.then_ hb)
  replace b_p := hide (b_p.out.keep hb)
  replace b_q := hide (b_q.out.keep hb)
  replace B := hide (Below.then_ B.out hb)
  clear hb
  go_wp2_with fail
  refine (hbn.out _).mono ?_
  rintro e w2 ⟨rfl, hb⟩
  replace H_p := hide (H_p.out.then_ hb)
  replace H_q := hide (H_q.out.then_ hb)
  replace b_p := hide (b_p.out.keep hb)
  replace b_q := hide (b_q.out.keep hb)
  replace B := hide (Below.then_ B.out hb)
  clear hb
  go_wp2_with fail
  refine (hbm.out _).mono ?_
  rintro e w3 ⟨rfl, hb⟩
  replace H_p := hide (H_p.out.then_ hb)
  replace H_q := hide (H_q.out.then_ hb)
  replace b_p := hide (b_p.out.keep hb)
  replace b_q := hide (b_q.out.keep hb)
  replace B := hide (Below.then_ B.out hb)
  clear hb
  go_wp2_with fail
  refine (of11d _).mono ?_
  rintro e w4 ⟨x_o, rfl, H_o, hb⟩
  replace H_p := hide (H_p.out.then_ hb)
  replace H_q := hide (H_q.out.then_ hb)
  replace b_p := hide (b_p.out.keep hb)
  replace b_q := hide (b_q.out.keep hb)
  replace B := hide (Below.then_ B.out hb)
  clear hb
  replace H_o := hide H_o
  have b_o := hide (Box3.new w4 (.bool x_o.s) (.slice x_o.A x_o.n x_o.c) (.slice x_o.B x_o.m x_o.d) rfl)
  have hb : Below w4.heap.size w4 (w4.alloc (.cells #[.bool x_o.s, .slice x_o.A x_o.n x_o.c, .slice x_o.B x_o.m x_o.d] 27)) := Below.al_ (Below.refl _ _) _
  replace H_p := hide (H_p.out.then_ hb)
  replace H_q := hide (H_q.out.then_ hb)
  replace H_o := hide (H_o.out.then_ hb)
  replace b_p := hide (b_p.out.keep hb)
  replace b_q := hide (b_q.out.keep hb)
  replace B := hide (Below.then_ B.out hb)
  clear hb
  have c_p0 := b_p.out.at0 b_p.out.lt_size (Nat.le_refl _) _ (Below.refl _ _)
  have c_p1 := b_p.out.at1 b_p.out.lt_size (Nat.le_refl _) _ (Below.refl _ _)
  have c_p2 := b_p.out.at2 b_p.out.lt_size (Nat.le_refl _) _ (Below.refl _ _)
  have c_q0 := b_q.out.at0 b_q.out.lt_size (Nat.le_refl _) _ (Below.refl _ _)
  have c_q1 := b_q.out.at1 b_q.out.lt_size (Nat.le_refl _) _ (Below.refl _ _)
  have c_q2 := b_q.out.at2 b_q.out.lt_size (Nat.le_refl _) _ (Below.refl _ _)
  have c_o0 := b_o.out.at0 b_o.out.lt_size (Nat.le_refl _) _ (Below.refl _ _)
  have c_o1 := b_o.out.at1 b_o.out.lt_size (Nat.le_refl _) _ (Below.refl _ _)
  have c_o2 := b_o.out.at2 b_o.out.lt_size (Nat.le_refl _) _ (Below.refl _ _)
  go_wp2_with fail
  refine (c1.out _ H_p.out).mono ?_
  rintro e w5 ⟨rfl, hb⟩
  replace H_p := hide (H_p.out.then_ hb)
  replace H_q := hide (H_q.out.then_ hb)
  replace H_o := hide (H_o.out.then_ hb)
  replace b_p := hide (b_p.out.keep hb)
  replace b_q := hide (b_q.out.keep hb)
  replace b_o := hide (b_o.out.keep hb)
  replace B := hide (Below.then_ B.out hb)
  clear hb
  clear c_p0 c_p1 c_p2
  clear c_q0 c_q1 c_q2
  clear c_o0 c_o1 c_o2
  have c_p0 := b_p.out.at0 b_p.out.lt_size (Nat.le_refl _) _ (Below.refl _ _)
  have c_p1 := b_p.out.at1 b_p.out.lt_size (Nat.le_refl _) _ (Below.refl _ _)
  have c_p2 := b_p.out.at2 b_p.out.lt_size (Nat.le_refl _) _ (Below.refl _ _)
  have c_q0 := b_q.out.at0 b_q.out.lt_size (Nat.le_refl _) _ (Below.refl _ _)
  have c_q1 := b_q.out.at1 b_q.out.lt_size (Nat.le_refl _) _ (Below.refl _ _)
  have c_q2 := b_q.out.at2 b_q.out.lt_size (Nat.le_refl _) _ (Below.refl _ _)
  have c_o0 := b_o.out.at0 b_o.out.lt_size (Nat.le_refl _) _ (Below.refl _ _)
  have c_o1 := b_o.out.at1 b_o.out.lt_size (Nat.le_refl _) _ (Below.refl _ _)
  have c_o2 := b_o.out.at2 b_o.out.lt_size (Nat.le_refl _) _ (Below.refl _ _)
  go_wp2_with fail
  refine (c2.out _ H_q.out).mono ?_
  rintro e w6 ⟨rfl, hb⟩
  replace H_p := hide (H_p.out.then_ hb)
  replace H_q := hide (H_q.out.then_ hb)
  replace H_o := hide (H_o.out.then_ hb)
  replace b_p := hide (b_p.out.keep hb)
  replace b_q := hide (b_q.out.keep hb)
  replace b_o := hide (b_o.out.keep hb)
  replace B := hide (Below.then_ B.out hb)
  clear hb
  clear c_p0 c_p1 c_p2
  clear c_q0 c_q1 c_q2
  clear c_o0 c_o1 c_o2
  cases a with
  | false =>
    have hp1 := hide (show sgn (r - 1).num < 0 from cmp_lt.2 (by have h1 := hno.out rfl; have h2 := hch1.out; grind))
    obtain ⟨k1, hk1⟩ : ∃ k, sgn (r - 1).num = k := ⟨_, rfl⟩
    have hk1l := hp1.out
    rw [hk1] at hk1l
    have g1 : decide ((0 : Int) ≤ k1) = false := by simp; omega
    obtain ⟨ks, hks⟩ : ∃ k, sgn r.num = k := ⟨_, rfl⟩
    replace hks := hide hks
    replace hk1 := hide hk1
    clear hp1 hk1l hyes hno hno2
    by_cases hs : ks ≤ 0
    · have g2 : decide (ks ≤ 0) = true := decide_eq_true hs
      have c_p0 := b_p.out.at0 b_p.out.lt_size (Nat.le_refl _) _ (Below.refl _ _)
      have c_p1 := b_p.out.at1 b_p.out.lt_size (Nat.le_refl _) _ (Below.refl _ _)
      have c_p2 := b_p.out.at2 b_p.out.lt_size (Nat.le_refl _) _ (Below.refl _ _)
      have c_q0 := b_q.out.at0 b_q.out.lt_size (Nat.le_refl _) _ (Below.refl _ _)
      have c_q1 := b_q.out.at1 b_q.out.lt_size (Nat.le_refl _) _ (Below.refl _ _)
      have c_q2 := b_q.out.at2 b_q.out.lt_size (Nat.le_refl _) _ (Below.refl _ _)
      have c_o0 := b_o.out.at0 b_o.out.lt_size (Nat.le_refl _) _ (Below.refl _ _)
      have c_o1 := b_o.out.at1 b_o.out.lt_size (Nat.le_refl _) _ (Below.refl _ _)
      have c_o2 := b_o.out.at2 b_o.out.lt_size (Nat.le_refl _) _ (Below.refl _ _)
      go_wp2_with fail
      refine (sign_q H_p.out (by decide) (Nat.le_refl _) hks.out).mono ?_
      rintro e w41 ⟨rfl, hb⟩
      replace H_p := hide (H_p.out.then_ hb)
      replace H_q := hide (H_q.out.then_ hb)
      replace H_o := hide (H_o.out.then_ hb)
      replace b_p := hide (b_p.out.keep hb)
      replace b_q := hide (b_q.out.keep hb)
      replace b_o := hide (b_o.out.keep hb)
      replace B := hide (Below.then_ B.out hb)
      clear hb
      clear c_p0 c_p1 c_p2
      clear c_q0 c_q1 c_q2
      clear c_o0 c_o1 c_o2
      have c_p0 := b_p.out.at0 b_p.out.lt_size (Nat.le_refl _) _ (Below.refl _ _)
      have c_p1 := b_p.out.at1 b_p.out.lt_size (Nat.le_refl _) _ (Below.refl _ _)
      have c_p2 := b_p.out.at2 b_p.out.lt_size (Nat.le_refl _) _ (Below.refl _ _)
      have c_q0 := b_q.out.at0 b_q.out.lt_size (Nat.le_refl _) _ (Below.refl _ _)
      have c_q1 := b_q.out.at1 b_q.out.lt_size (Nat.le_refl _) _ (Below.refl _ _)
      have c_q2 := b_q.out.at2 b_q.out.lt_size (Nat.le_refl _) _ (Below.refl _ _)
      have c_o0 := b_o.out.at0 b_o.out.lt_size (Nat.le_refl _) _ (Below.refl _ _)
      have c_o1 := b_o.out.at1 b_o.out.lt_size (Nat.le_refl _) _ (Below.refl _ _)
      have c_o2 := b_o.out.at2 b_o.out.lt_size (Nat.le_refl _) _ (Below.refl _ _)
      go_wp2_with fail
      refine (cmp_q H_p.out (by decide) H_o.out.rq (by decide) (Nat.le_refl _) hk1.out).mono ?_
      rintro e w42 ⟨rfl, hb⟩
      replace H_p := hide (H_p.out.then_ hb)
      replace H_q := hide (H_q.out.then_ hb)
      replace H_o := hide (H_o.out.then_ hb)
      replace b_p := hide (b_p.out.keep hb)
      replace b_q := hide (b_q.out.keep hb)
      replace b_o := hide (b_o.out.keep hb)
      replace B := hide (Below.then_ B.out hb)
      clear hb
      clear c_p0 c_p1 c_p2
      clear c_q0 c_q1 c_q2
      clear c_o0 c_o1 c_o2
      go_wp2_with fail
      refine (hA _).mono ?_
      rintro e w43 ⟨rfl, hb⟩
      replace H_p := hide (H_p.out.then_ hb)
      replace H_q := hide (H_q.out.then_ hb)
      replace H_o := hide (H_o.out.then_ hb)
      replace b_p := hide (b_p.out.keep hb)
      replace b_q := hide (b_q.out.keep hb)
      replace b_o := hide (b_o.out.keep hb)
      replace B := hide (Below.then_ B.out hb)
      clear hb
      go_wp2
      go_ret
      exact ⟨rfl, B.out⟩
    · have g2 : decide (ks ≤ 0) = false := decide_eq_false hs
      have c_p0 := b_p.out.at0 b_p.out.lt_size (Nat.le_refl _) _ (Below.refl _ _)
      have c_p1 := b_p.out.at1 b_p.out.lt_size (Nat.le_refl _) _ (Below.refl _ _)
      have c_p2 := b_p.out.at2 b_p.out.lt_size (Nat.le_refl _) _ (Below.refl _ _)
      have c_q0 := b_q.out.at0 b_q.out.lt_size (Nat.le_refl _) _ (Below.refl _ _)
      have c_q1 := b_q.out.at1 b_q.out.lt_size (Nat.le_refl _) _ (Below.refl _ _)
      have c_q2 := b_q.out.at2 b_q.out.lt_size (Nat.le_refl _) _ (Below.refl _ _)
      have c_o0 := b_o.out.at0 b_o.out.lt_size (Nat.le_refl _) _ (Below.refl _ _)
      have c_o1 := b_o.out.at1 b_o.out.lt_size (Nat.le_refl _) _ (Below.refl _ _)
      have c_o2 := b_o.out.at2 b_o.out.lt_size (Nat.le_refl _) _ (Below.refl _ _)
      go_wp2_with fail
      refine (sign_q H_p.out (by decide) (Nat.le_refl _) hks.out).mono ?_
      rintro e w41 ⟨rfl, hb⟩
      replace H_p := hide (H_p.out.then_ hb)
      replace H_q := hide (H_q.out.then_ hb)
      replace H_o := hide (H_o.out.then_ hb)
      replace b_p := hide (b_p.out.keep hb)
      replace b_q := hide (b_q.out.keep hb)
      replace b_o := hide (b_o.out.keep hb)
      replace B := hide (Below.then_ B.out hb)
      clear hb
      clear c_p0 c_p1 c_p2
      clear c_q0 c_q1 c_q2
      clear c_o0 c_o1 c_o2
      have c_p0 := b_p.out.at0 b_p.out.lt_size (Nat.le_refl _) _ (Below.refl _ _)
      have c_p1 := b_p.out.at1 b_p.out.lt_size (Nat.le_refl _) _ (Below.refl _ _)
      have c_p2 := b_p.out.at2 b_p.out.lt_size (Nat.le_refl _) _ (Below.refl _ _)
      have c_q0 := b_q.out.at0 b_q.out.lt_size (Nat.le_refl _) _ (Below.refl _ _)
      have c_q1 := b_q.out.at1 b_q.out.lt_size (Nat.le_refl _) _ (Below.refl _ _)
      have c_q2 := b_q.out.at2 b_q.out.lt_size (Nat.le_refl _) _ (Below.refl _ _)
      have c_o0 := b_o.out.at0 b_o.out.lt_size (Nat.le_refl _) _ (Below.refl _ _)
      have c_o1 := b_o.out.at1 b_o.out.lt_size (Nat.le_refl _) _ (Below.refl _ _)
      have c_o2 := b_o.out.at2 b_o.out.lt_size (Nat.le_refl _) _ (Below.refl _ _)
      go_wp2_with fail
      refine (cmp_q H_p.out (by decide) H_o.out.rq (by decide) (Nat.le_refl _) hk1.out).mono ?_
      rintro e w42 ⟨rfl, hb⟩
      replace H_p := hide (H_p.out.then_ hb)
      replace H_q := hide (H_q.out.then_ hb)
      replace H_o := hide (H_o.out.then_ hb)
      replace b_p := hide (b_p.out.keep hb)
      replace b_q := hide (b_q.out.keep hb)
      replace b_o := hide (b_o.out.keep hb)
      replace B := hide (Below.then_ B.out hb)
      clear hb
      clear c_p0 c_p1 c_p2
      clear c_q0 c_q1 c_q2
      clear c_o0 c_o1 c_o2
      go_wp2_with fail
      refine (hA _).mono ?_
      rintro e w43 ⟨rfl, hb⟩
      replace H_p := hide (H_p.out.then_ hb)
      replace H_q := hide (H_q.out.then_ hb)
      replace H_o := hide (H_o.out.then_ hb)
      replace b_p := hide (b_p.out.keep hb)
      replace b_q := hide (b_q.out.keep hb)
      replace b_o := hide (b_o.out.keep hb)
      replace B := hide (Below.then_ B.out hb)
      clear hb
      go_wp2
      go_ret
      exact ⟨rfl, B.out⟩
  | true =>
    have hp1 := hide (show ¬ sgn r.num ≤ 0 from sgn_gt (by have h1 := hyes.out rfl; have h2 := hch0.out; grind))
    obtain ⟨ks, hks⟩ : ∃ k, sgn r.num = k := ⟨_, rfl⟩
    have hksl := hp1.out
    rw [hks] at hksl
    have g1 : decide (ks ≤ 0) = false := decide_eq_false hksl
    obtain ⟨k1, hk1⟩ : ∃ k, sgn (r - 1).num = k := ⟨_, rfl⟩
    obtain ⟨k2, hk2⟩ : ∃ k, sgn (r - u).num = k := ⟨_, rfl⟩
    have hb2 := hide (show k2 ≤ 0 → b = true from fun h => by
      cases b with
      | true => rfl
      | false => rw [← hk2, cmp_le] at h; have h1 := hyes.out rfl; have h2 := hno2.out rfl; exact absurd h1 (by rw [Rat.not_lt]; grind))
    replace hks := hide hks
    replace hk1 := hide hk1
    replace hk2 := hide hk2
    clear hp1 hksl hyes hno hno2
    by_cases h2 : k2 ≤ 0
    · obtain rfl : b = true := hb2.out h2
      have g2 : decide (k2 ≤ 0) = true := decide_eq_true h2
      clear hb2 h2
      have c_p0 := b_p.out.at0 b_p.out.lt_size (Nat.le_refl _) _ (Below.refl _ _)
      have c_p1 := b_p.out.at1 b_p.out.lt_size (Nat.le_refl _) _ (Below.refl _ _)
      have c_p2 := b_p.out.at2 b_p.out.lt_size (Nat.le_refl _) _ (Below.refl _ _)
      have c_q0 := b_q.out.at0 b_q.out.lt_size (Nat.le_refl _) _ (Below.refl _ _)
      have c_q1 := b_q.out.at1 b_q.out.lt_size (Nat.le_refl _) _ (Below.refl _ _)
      have c_q2 := b_q.out.at2 b_q.out.lt_size (Nat.le_refl _) _ (Below.refl _ _)
      have c_o0 := b_o.out.at0 b_o.out.lt_size (Nat.le_refl _) _ (Below.refl _ _)
      have c_o1 := b_o.out.at1 b_o.out.lt_size (Nat.le_refl _) _ (Below.refl _ _)
      have c_o2 := b_o.out.at2 b_o.out.lt_size (Nat.le_refl _) _ (Below.refl _ _)
      go_wp2_with fail
      refine (cmp_q H_p.out (by decide) H_q.out (by decide) (Nat.le_refl _) hk2.out).mono ?_
      rintro e w61 ⟨rfl, hb⟩
      replace H_p := hide (H_p.out.then_ hb)
      replace H_q := hide (H_q.out.then_ hb)
      replace H_o := hide (H_o.out.then_ hb)
      replace b_p := hide (b_p.out.keep hb)
      replace b_q := hide (b_q.out.keep hb)
      replace b_o := hide (b_o.out.keep hb)
      replace B := hide (Below.then_ B.out hb)
      clear hb
      clear c_p0 c_p1 c_p2
      clear c_q0 c_q1 c_q2
      clear c_o0 c_o1 c_o2
      have c_p0 := b_p.out.at0 b_p.out.lt_size (Nat.le_refl _) _ (Below.refl _ _)
      have c_p1 := b_p.out.at1 b_p.out.lt_size (Nat.le_refl _) _ (Below.refl _ _)
      have c_p2 := b_p.out.at2 b_p.out.lt_size (Nat.le_refl _) _ (Below.refl _ _)
      have c_q0 := b_q.out.at0 b_q.out.lt_size (Nat.le_refl _) _ (Below.refl _ _)
      have c_q1 := b_q.out.at1 b_q.out.lt_size (Nat.le_refl _) _ (Below.refl _ _)
      have c_q2 := b_q.out.at2 b_q.out.lt_size (Nat.le_refl _) _ (Below.refl _ _)
      have c_o0 := b_o.out.at0 b_o.out.lt_size (Nat.le_refl _) _ (Below.refl _ _)
      have c_o1 := b_o.out.at1 b_o.out.lt_size (Nat.le_refl _) _ (Below.refl _ _)
      have c_o2 := b_o.out.at2 b_o.out.lt_size (Nat.le_refl _) _ (Below.refl _ _)
      go_wp2_with fail
      refine (sign_q H_p.out (by decide) (Nat.le_refl _) hks.out).mono ?_
      rintro e w62 ⟨rfl, hb⟩
      replace H_p := hide (H_p.out.then_ hb)
      replace H_q := hide (H_q.out.then_ hb)
      replace H_o := hide (H_o.out.then_ hb)
      replace b_p := hide (b_p.out.keep hb)
      replace b_q := hide (b_q.out.keep hb)
      replace b_o := hide (b_o.out.keep hb)
      replace B := hide (Below.then_ B.out hb)
      clear hb
      clear c_p0 c_p1 c_p2
      clear c_q0 c_q1 c_q2
      clear c_o0 c_o1 c_o2
      have c_p0 := b_p.out.at0 b_p.out.lt_size (Nat.le_refl _) _ (Below.refl _ _)
      have c_p1 := b_p.out.at1 b_p.out.lt_size (Nat.le_refl _) _ (Below.refl _ _)
      have c_p2 := b_p.out.at2 b_p.out.lt_size (Nat.le_refl _) _ (Below.refl _ _)
      have c_q0 := b_q.out.at0 b_q.out.lt_size (Nat.le_refl _) _ (Below.refl _ _)
      have c_q1 := b_q.out.at1 b_q.out.lt_size (Nat.le_refl _) _ (Below.refl _ _)
      have c_q2 := b_q.out.at2 b_q.out.lt_size (Nat.le_refl _) _ (Below.refl _ _)
      have c_o0 := b_o.out.at0 b_o.out.lt_size (Nat.le_refl _) _ (Below.refl _ _)
      have c_o1 := b_o.out.at1 b_o.out.lt_size (Nat.le_refl _) _ (Below.refl _ _)
      have c_o2 := b_o.out.at2 b_o.out.lt_size (Nat.le_refl _) _ (Below.refl _ _)
      go_wp2_with fail
      refine (cmp_q H_p.out (by decide) H_o.out.rq (by decide) (Nat.le_refl _) hk1.out).mono ?_
      rintro e w63 ⟨rfl, hb⟩
      replace H_p := hide (H_p.out.then_ hb)
      replace H_q := hide (H_q.out.then_ hb)
      replace H_o := hide (H_o.out.then_ hb)
      replace b_p := hide (b_p.out.keep hb)
      replace b_q := hide (b_q.out.keep hb)
      replace b_o := hide (b_o.out.keep hb)
      replace B := hide (Below.then_ B.out hb)
      clear hb
      clear c_p0 c_p1 c_p2
      clear c_q0 c_q1 c_q2
      clear c_o0 c_o1 c_o2
      clear b_p b_q b_o
      by_cases h3 : 0 ≤ k1
      · have g3 : decide ((0 : Int) ≤ k1) = true := decide_eq_true h3
        clear h3
        go_wp2_with fail
        refine (hA _).mono ?_
        rintro e w81 ⟨rfl, hb⟩
        replace H_p := hide (H_p.out.then_ hb)
        replace H_q := hide (H_q.out.then_ hb)
        replace H_o := hide (H_o.out.then_ hb)
        replace B := hide (Below.then_ B.out hb)
        clear hb
        go_wp2
        go_ret
        exact ⟨rfl, B.out⟩
      · have g3 : decide ((0 : Int) ≤ k1) = false := decide_eq_false h3
        clear h3
        go_wp2_with fail
        refine (hA _).mono ?_
        rintro e w81 ⟨rfl, hb⟩
        replace H_p := hide (H_p.out.then_ hb)
        replace H_q := hide (H_q.out.then_ hb)
        replace H_o := hide (H_o.out.then_ hb)
        replace B := hide (Below.then_ B.out hb)
        clear hb
        go_wp2
        go_ret
        exact ⟨rfl, B.out⟩
    · have g2 : decide (k2 ≤ 0) = false := decide_eq_false h2
      clear hb2 h2
      have c_p0 := b_p.out.at0 b_p.out.lt_size (Nat.le_refl _) _ (Below.refl _ _)
      have c_p1 := b_p.out.at1 b_p.out.lt_size (Nat.le_refl _) _ (Below.refl _ _)
      have c_p2 := b_p.out.at2 b_p.out.lt_size (Nat.le_refl _) _ (Below.refl _ _)
      have c_q0 := b_q.out.at0 b_q.out.lt_size (Nat.le_refl _) _ (Below.refl _ _)
      have c_q1 := b_q.out.at1 b_q.out.lt_size (Nat.le_refl _) _ (Below.refl _ _)
      have c_q2 := b_q.out.at2 b_q.out.lt_size (Nat.le_refl _) _ (Below.refl _ _)
      have c_o0 := b_o.out.at0 b_o.out.lt_size (Nat.le_refl _) _ (Below.refl _ _)
      have c_o1 := b_o.out.at1 b_o.out.lt_size (Nat.le_refl _) _ (Below.refl _ _)
      have c_o2 := b_o.out.at2 b_o.out.lt_size (Nat.le_refl _) _ (Below.refl _ _)
      go_wp2_with fail
      refine (cmp_q H_p.out (by decide) H_q.out (by decide) (Nat.le_refl _) hk2.out).mono ?_
      rintro e w61 ⟨rfl, hb⟩
      replace H_p := hide (H_p.out.then_ hb)
      replace H_q := hide (H_q.out.then_ hb)
      replace H_o := hide (H_o.out.then_ hb)
      replace b_p := hide (b_p.out.keep hb)
      replace b_q := hide (b_q.out.keep hb)
      replace b_o := hide (b_o.out.keep hb)
      replace B := hide (Below.then_ B.out hb)
      clear hb
      clear c_p0 c_p1 c_p2
      clear c_q0 c_q1 c_q2
      clear c_o0 c_o1 c_o2
      have c_p0 := b_p.out.at0 b_p.out.lt_size (Nat.le_refl _) _ (Below.refl _ _)
      have c_p1 := b_p.out.at1 b_p.out.lt_size (Nat.le_refl _) _ (Below.refl _ _)
      have c_p2 := b_p.out.at2 b_p.out.lt_size (Nat.le_refl _) _ (Below.refl _ _)
      have c_q0 := b_q.out.at0 b_q.out.lt_size (Nat.le_refl _) _ (Below.refl _ _)
      have c_q1 := b_q.out.at1 b_q.out.lt_size (Nat.le_refl _) _ (Below.refl _ _)
      have c_q2 := b_q.out.at2 b_q.out.lt_size (Nat.le_refl _) _ (Below.refl _ _)
      have c_o0 := b_o.out.at0 b_o.out.lt_size (Nat.le_refl _) _ (Below.refl _ _)
      have c_o1 := b_o.out.at1 b_o.out.lt_size (Nat.le_refl _) _ (Below.refl _ _)
      have c_o2 := b_o.out.at2 b_o.out.lt_size (Nat.le_refl _) _ (Below.refl _ _)
      go_wp2_with fail
      refine (sign_q H_p.out (by decide) (Nat.le_refl _) hks.out).mono ?_
      rintro e w62 ⟨rfl, hb⟩
      replace H_p := hide (H_p.out.then_ hb)
      replace H_q := hide (H_q.out.then_ hb)
      replace H_o := hide (H_o.out.then_ hb)
      replace b_p := hide (b_p.out.keep hb)
      replace b_q := hide (b_q.out.keep hb)
      replace b_o := hide (b_o.out.keep hb)
      replace B := hide (Below.then_ B.out hb)
      clear hb
      clear c_p0 c_p1 c_p2
      clear c_q0 c_q1 c_q2
      clear c_o0 c_o1 c_o2
      have c_p0 := b_p.out.at0 b_p.out.lt_size (Nat.le_refl _) _ (Below.refl _ _)
      have c_p1 := b_p.out.at1 b_p.out.lt_size (Nat.le_refl _) _ (Below.refl _ _)
      have c_p2 := b_p.out.at2 b_p.out.lt_size (Nat.le_refl _) _ (Below.refl _ _)
      have c_q0 := b_q.out.at0 b_q.out.lt_size (Nat.le_refl _) _ (Below.refl _ _)
      have c_q1 := b_q.out.at1 b_q.out.lt_size (Nat.le_refl _) _ (Below.refl _ _)
      have c_q2 := b_q.out.at2 b_q.out.lt_size (Nat.le_refl _) _ (Below.refl _ _)
      have c_o0 := b_o.out.at0 b_o.out.lt_size (Nat.le_refl _) _ (Below.refl _ _)
      have c_o1 := b_o.out.at1 b_o.out.lt_size (Nat.le_refl _) _ (Below.refl _ _)
      have c_o2 := b_o.out.at2 b_o.out.lt_size (Nat.le_refl _) _ (Below.refl _ _)
      go_wp2_with fail
      refine (cmp_q H_p.out (by decide) H_o.out.rq (by decide) (Nat.le_refl _) hk1.out).mono ?_
      rintro e w63 ⟨rfl, hb⟩
      replace H_p := hide (H_p.out.then_ hb)
      replace H_q := hide (H_q.out.then_ hb)
      replace H_o := hide (H_o.out.then_ hb)
      replace b_p := hide (b_p.out.keep hb)
      replace b_q := hide (b_q.out.keep hb)
      replace b_o := hide (b_o.out.keep hb)
      replace B := hide (Below.then_ B.out hb)
      clear hb
      clear c_p0 c_p1 c_p2
      clear c_q0 c_q1 c_q2
      clear c_o0 c_o1 c_o2
      clear b_p b_q b_o
      by_cases h3 : 0 ≤ k1
      · have g3 : decide ((0 : Int) ≤ k1) = true := decide_eq_true h3
        clear h3
        go_wp2_with fail
        refine (hA _).mono ?_
        rintro e w81 ⟨rfl, hb⟩
        replace H_p := hide (H_p.out.then_ hb)
        replace H_q := hide (H_q.out.then_ hb)
        replace H_o := hide (H_o.out.then_ hb)
        replace B := hide (Below.then_ B.out hb)
        clear hb
        go_wp2
        go_ret
        exact ⟨rfl, B.out⟩
      · have g3 : decide ((0 : Int) ≤ k1) = false := decide_eq_false h3
        clear h3
        go_wp2_with fail
        refine (hA _).mono ?_
        rintro e w81 ⟨rfl, hb⟩
        replace H_p := hide (H_p.out.then_ hb)
        replace H_q := hide (H_q.out.then_ hb)
        replace H_o := hide (H_o.out.then_ hb)
        replace B := hide (Below.then_ B.out hb)
        clear hb
        go_wp2
        go_ret
        exact ⟨rfl, B.out⟩
set_option maxHeartbeats 16000000 in
set_option maxRecDepth 100000 in
theorem ranges_mono (hA : ∀ w : World, Calls Try.prog 27 #[] w (RetB w (.bool true))) {w : World} {d : Nat} {p q : Rc} {r u : Rat} (hd : d < 18446744073709551616) {n m : Int} (hn : I64 n) (hm : I64 m) (h1 : 1 ≤ n) (h2 : n ≤ 2147483648) (h : n ≤ m) (h3 : m ≤ 2147483648) (h_p : Rq w w.heap.size 1048576 p r) (h_q : Rq w w.heap.size 1048576 q u) : Calls Try.prog 8 #[.int .u64 (d : Int), .int .i64 n, .int .i64 m, .agg #[.bool p.s, .slice p.A p.n p.c, .slice p.B p.m p.d], .agg #[.bool q.s, .slice q.A q.n q.c, .slice q.B q.m q.d]] w (RetB w (.bool true)) := by
  obtain ⟨W, hW⟩ : ∃ W, W = ((w.alloc (.cells #[.bool p.s, .slice p.A p.n p.c, .slice p.B p.m p.d] 27)).alloc (.cells #[.bool q.s, .slice q.A q.n q.c, .slice q.B q.m q.d] 27)) := ⟨_, rfl⟩
  have b_p := hide (show Box3 W (w.heap.size) (.bool p.s) (.slice p.A p.n p.c) (.slice p.B p.m p.d) by rw [hW]; exact ((Box3.new w _ _ _ rfl).al _))
  have b_q := hide (show Box3 W (w.heap.size + 1) (.bool q.s) (.slice q.A q.n q.c) (.slice q.B q.m q.d) by rw [hW]; exact (Box3.new _ _ _ _ (by simp)))
  have hwW : Below w.heap.size w W := by rw [hW]; exact (Below.al_ (Below.al_ (Below.refl _ _) _) _)
  have H_p := hide (h_p.upto hwW (Nat.le_refl _))
  clear h_p
  have H_q := hide (h_q.upto hwW (Nat.le_refl _))
  clear h_q
  have B := hide hwW
  clear hwW
  have hn0 := hn.1
  have hn1 := hn.2
  have hm0 := hm.1
  have hm1 := hm.2
  obtain ⟨j, rfl⟩ : ∃ j : Nat, m = (j : Int) := ⟨m.toNat, by omega⟩
  obtain ⟨k, rfl⟩ : ∃ k : Nat, n = (k : Int) := ⟨n.toNat, by omega⟩
  have d1 : decide ((k : Int) < 1) = false := by simp; omega
  have d2 : decide ((2147483648 : Int) < (k : Int)) = false := by simp; omega
  have hbn := hide (fun w => below_p (w := w) hd hn)
  have hbm := hide (fun w => below_p (w := w) hd hm)
  have hlt := bw_lt (s := d) (n := (k : Int)) (by simp only [bwB, decide_eq_true_eq]; omega)
  have hbs : bwS d (k : Int) = dnx d := bwS_nat (by omega) (by omega)
  rw [hbs] at hbn
  have hmo := bw_mono (s := d) (m := j) (n := k) (by omega) (by omega) (by omega)
  obtain ⟨y, hy⟩ : ∃ y, y = bwN d (j : Int) := ⟨_, rfl⟩
  obtain ⟨ym, hym⟩ : ∃ y, y = bwS d (j : Int) := ⟨_, rfl⟩
  obtain ⟨x, hx⟩ : ∃ x, x = bwN d (k : Int) := ⟨_, rfl⟩
  rw [← hy, ← hym] at hbm
  rw [← hx] at hbn hlt hmo
  rw [← hy] at hmo
  have d3 : decide ((x : Int) < 0) = false := by simp
  have d4 : decide ((k : Int) ≤ (x : Int)) = false := by simp; omega
  have d4' : decide (k ≤ x) = false := by simp; omega
  have d5 : decide ((k : Int) ≤ (j : Int)) = true := by simp; omega
  have d5' : decide (k ≤ j) = true := by simp; omega
  have d6 : decide ((j : Int) ≤ 2147483648) = true := by simp; omega
  have d7 : decide ((y : Int) < (x : Int)) = false := by simp; omega
  have d7' : decide (y < x) = false := by simp; omega
  clear hy hym hx hlt hbs hmo h h1 h2 h3 hn hm
  have hnx := hide (fun w => next_p (w := w) hd)
  have hul := dup_lt d
  have hsl := dnx_lt d
  obtain ⟨a, ha⟩ : ∃ a, chB d r = a := ⟨_, rfl⟩
  obtain ⟨b, hb'⟩ : ∃ b, chB d u = b := ⟨_, rfl⟩
  have c1 := hide (fun (v : World) (h : Rq v v.heap.size 1048576 p r) => chance_p hd h (by decide) (Nat.le_refl _))
  have c2 := hide (fun (v : World) (h : Rq v v.heap.size 1048576 q u) => chance_p hd h (by decide) (Nat.le_refl _))
  rw [ha] at c1
  rw [hb'] at c2
  have hch0 := hide (chq_ge (s := d))
  have hch1 := hide (chq_lt (s := d))
  have hyes := hide (fun (e : chB d r = true) => chq_yes e)
  have hno := hide (fun (e : chB d r = false) => chq_no e)
  have hno2 := hide (fun (e : chB d u = false) => chq_no e)
  rw [ha] at hyes hno
  rw [hb'] at hno2
  obtain ⟨t, ht⟩ : ∃ t, t = dnx d := ⟨_, rfl⟩
  rw [← ht] at hnx hsl c1 c2 hbn
  obtain ⟨x0, hx0⟩ : ∃ x, x = dup d := ⟨_, rfl⟩
  rw [← hx0] at hnx hul
  clear ht ha hb' hx0
  go_enter Try.func8, Try.ntmps8
  go_wp2_with fail
  rw [← hW]
  clear hW
  refine (hnx.out _).mono ?_
  rintro e w1 ⟨rfl, hb⟩
  replace H_p := hide (H_p.out.then_ hb)
  replace H_q := hide (H_q.out.then_ hb)
  replace b_p := hide (b_p.out.keep hb)
  replace b_q := hide (b_q.out.keep hb)
  replace B := hide (Below.then_ B.out hb)
  clear hb
  go_wp2_with fail
  refine (hbn.out _).mono ?_
  rintro e w2 ⟨rfl, hb⟩
  replace H_p := hide (H_p.out.then_ hb)
  replace H_q := hide (H_q.out.then_ hb)
  replace b_p := hide (b_p.out.keep hb)
  replace b_q := hide (b_q.out.keep hb)
  replace B := hide (Below.then_ B.out hb)
  clear hb
  go_wp2_with fail
  refine (hbm.out _).mono ?_
  rintro e w3 ⟨rfl, hb⟩
  replace H_p := hide (H_p.out.then_ hb)
  replace H_q := hide (H_q.out.then_ hb)
  replace b_p := hide (b_p.out.keep hb)
  replace b_q := hide (b_q.out.keep hb)
  replace B := hide (Below.then_ B.out hb)
  clear hb
  go_wp2_with fail
  refine (of11d _).mono ?_
  rintro e w4 ⟨x_o, rfl, H_o, hb⟩
  replace H_p := hide (H_p.out.then_ hb)
  replace H_q := hide (H_q.out.then_ hb)
  replace b_p := hide (b_p.out.keep hb)
  replace b_q := hide (b_q.out.keep hb)
  replace B := hide (Below.then_ B.out hb)
  clear hb
  replace H_o := hide H_o
  have b_o := hide (Box3.new w4 (.bool x_o.s) (.slice x_o.A x_o.n x_o.c) (.slice x_o.B x_o.m x_o.d) rfl)
  have hb : Below w4.heap.size w4 (w4.alloc (.cells #[.bool x_o.s, .slice x_o.A x_o.n x_o.c, .slice x_o.B x_o.m x_o.d] 27)) := Below.al_ (Below.refl _ _) _
  replace H_p := hide (H_p.out.then_ hb)
  replace H_q := hide (H_q.out.then_ hb)
  replace H_o := hide (H_o.out.then_ hb)
  replace b_p := hide (b_p.out.keep hb)
  replace b_q := hide (b_q.out.keep hb)
  replace B := hide (Below.then_ B.out hb)
  clear hb
  have c_p0 := b_p.out.at0 b_p.out.lt_size (Nat.le_refl _) _ (Below.refl _ _)
  have c_p1 := b_p.out.at1 b_p.out.lt_size (Nat.le_refl _) _ (Below.refl _ _)
  have c_p2 := b_p.out.at2 b_p.out.lt_size (Nat.le_refl _) _ (Below.refl _ _)
  have c_q0 := b_q.out.at0 b_q.out.lt_size (Nat.le_refl _) _ (Below.refl _ _)
  have c_q1 := b_q.out.at1 b_q.out.lt_size (Nat.le_refl _) _ (Below.refl _ _)
  have c_q2 := b_q.out.at2 b_q.out.lt_size (Nat.le_refl _) _ (Below.refl _ _)
  have c_o0 := b_o.out.at0 b_o.out.lt_size (Nat.le_refl _) _ (Below.refl _ _)
  have c_o1 := b_o.out.at1 b_o.out.lt_size (Nat.le_refl _) _ (Below.refl _ _)
  have c_o2 := b_o.out.at2 b_o.out.lt_size (Nat.le_refl _) _ (Below.refl _ _)
  go_wp2_with fail
  refine (c1.out _ H_p.out).mono ?_
  rintro e w5 ⟨rfl, hb⟩
  replace H_p := hide (H_p.out.then_ hb)
  replace H_q := hide (H_q.out.then_ hb)
  replace H_o := hide (H_o.out.then_ hb)
  replace b_p := hide (b_p.out.keep hb)
  replace b_q := hide (b_q.out.keep hb)
  replace b_o := hide (b_o.out.keep hb)
  replace B := hide (Below.then_ B.out hb)
  clear hb
  clear c_p0 c_p1 c_p2
  clear c_q0 c_q1 c_q2
  clear c_o0 c_o1 c_o2
  have c_p0 := b_p.out.at0 b_p.out.lt_size (Nat.le_refl _) _ (Below.refl _ _)
  have c_p1 := b_p.out.at1 b_p.out.lt_size (Nat.le_refl _) _ (Below.refl _ _)
  have c_p2 := b_p.out.at2 b_p.out.lt_size (Nat.le_refl _) _ (Below.refl _ _)
  have c_q0 := b_q.out.at0 b_q.out.lt_size (Nat.le_refl _) _ (Below.refl _ _)
  have c_q1 := b_q.out.at1 b_q.out.lt_size (Nat.le_refl _) _ (Below.refl _ _)
  have c_q2 := b_q.out.at2 b_q.out.lt_size (Nat.le_refl _) _ (Below.refl _ _)
  have c_o0 := b_o.out.at0 b_o.out.lt_size (Nat.le_refl _) _ (Below.refl _ _)
  have c_o1 := b_o.out.at1 b_o.out.lt_size (Nat.le_refl _) _ (Below.refl _ _)
  have c_o2 := b_o.out.at2 b_o.out.lt_size (Nat.le_refl _) _ (Below.refl _ _)
  go_wp2_with fail
  refine (c2.out _ H_q.out).mono ?_
  rintro e w6 ⟨rfl, hb⟩
  replace H_p := hide (H_p.out.then_ hb)
  replace H_q := hide (H_q.out.then_ hb)
  replace H_o := hide (H_o.out.then_ hb)
  replace b_p := hide (b_p.out.keep hb)
  replace b_q := hide (b_q.out.keep hb)
  replace b_o := hide (b_o.out.keep hb)
  replace B := hide (Below.then_ B.out hb)
  clear hb
  clear c_p0 c_p1 c_p2
  clear c_q0 c_q1 c_q2
  clear c_o0 c_o1 c_o2
  cases a with
  | false =>
    have hp1 := hide (show sgn (r - 1).num < 0 from cmp_lt.2 (by have h1 := hno.out rfl; have h2 := hch1.out; grind))
    obtain ⟨k1, hk1⟩ : ∃ k, sgn (r - 1).num = k := ⟨_, rfl⟩
    have hk1l := hp1.out
    rw [hk1] at hk1l
    have g1 : decide ((0 : Int) ≤ k1) = false := by simp; omega
    obtain ⟨ks, hks⟩ : ∃ k, sgn r.num = k := ⟨_, rfl⟩
    replace hks := hide hks
    replace hk1 := hide hk1
    clear hp1 hk1l hyes hno hno2
    by_cases hs : ks ≤ 0
    · have g2 : decide (ks ≤ 0) = true := decide_eq_true hs
      have c_p0 := b_p.out.at0 b_p.out.lt_size (Nat.le_refl _) _ (Below.refl _ _)
      have c_p1 := b_p.out.at1 b_p.out.lt_size (Nat.le_refl _) _ (Below.refl _ _)
      have c_p2 := b_p.out.at2 b_p.out.lt_size (Nat.le_refl _) _ (Below.refl _ _)
      have c_q0 := b_q.out.at0 b_q.out.lt_size (Nat.le_refl _) _ (Below.refl _ _)
      have c_q1 := b_q.out.at1 b_q.out.lt_size (Nat.le_refl _) _ (Below.refl _ _)
      have c_q2 := b_q.out.at2 b_q.out.lt_size (Nat.le_refl _) _ (Below.refl _ _)
      have c_o0 := b_o.out.at0 b_o.out.lt_size (Nat.le_refl _) _ (Below.refl _ _)
      have c_o1 := b_o.out.at1 b_o.out.lt_size (Nat.le_refl _) _ (Below.refl _ _)
      have c_o2 := b_o.out.at2 b_o.out.lt_size (Nat.le_refl _) _ (Below.refl _ _)
      go_wp2_with fail
      refine (sign_q H_p.out (by decide) (Nat.le_refl _) hks.out).mono ?_
      rintro e w41 ⟨rfl, hb⟩
      replace H_p := hide (H_p.out.then_ hb)
      replace H_q := hide (H_q.out.then_ hb)
      replace H_o := hide (H_o.out.then_ hb)
      replace b_p := hide (b_p.out.keep hb)
      replace b_q := hide (b_q.out.keep hb)
      replace b_o := hide (b_o.out.keep hb)
      replace B := hide (Below.then_ B.out hb)
      clear hb
      clear c_p0 c_p1 c_p2
      clear c_q0 c_q1 c_q2
      clear c_o0 c_o1 c_o2
      have c_p0 := b_p.out.at0 b_p.out.lt_size (Nat.le_refl _) _ (Below.refl _ _)
      have c_p1 := b_p.out.at1 b_p.out.lt_size (Nat.le_refl _) _ (Below.refl _ _)
      have c_p2 := b_p.out.at2 b_p.out.lt_size (Nat.le_refl _) _ (Below.refl _ _)
      have c_q0 := b_q.out.at0 b_q.out.lt_size (Nat.le_refl _) _ (Below.refl _ _)
      have c_q1 := b_q.out.at1 b_q.out.lt_size (Nat.le_refl _) _ (Below.refl _ _)
      have c_q2 := b_q.out.at2 b_q.out.lt_size (Nat.le_refl _) _ (Below.refl _ _)
      have c_o0 := b_o.out.at0 b_o.out.lt_size (Nat.le_refl _) _ (Below.refl _ _)
      have c_o1 := b_o.out.at1 b_o.out.lt_size (Nat.le_refl _) _ (Below.refl _ _)
      have c_o2 := b_o.out.at2 b_o.out.lt_size (Nat.le_refl _) _ (Below.refl _ _)
      go_wp2_with fail
      refine (cmp_q H_p.out (by decide) H_o.out.rq (by decide) (Nat.le_refl _) hk1.out).mono ?_
      rintro e w42 ⟨rfl, hb⟩
      replace H_p := hide (H_p.out.then_ hb)
      replace H_q := hide (H_q.out.then_ hb)
      replace H_o := hide (H_o.out.then_ hb)
      replace b_p := hide (b_p.out.keep hb)
      replace b_q := hide (b_q.out.keep hb)
      replace b_o := hide (b_o.out.keep hb)
      replace B := hide (Below.then_ B.out hb)
      clear hb
      clear c_p0 c_p1 c_p2
      clear c_q0 c_q1 c_q2
      clear c_o0 c_o1 c_o2
      go_wp2_with fail
      refine (hA _).mono ?_
      rintro e w43 ⟨rfl, hb⟩
      replace H_p := hide (H_p.out.then_ hb)
      replace H_q := hide (H_q.out.then_ hb)
      replace H_o := hide (H_o.out.then_ hb)
      replace b_p := hide (b_p.out.keep hb)
      replace b_q := hide (b_q.out.keep hb)
      replace b_o := hide (b_o.out.keep hb)
      replace B := hide (Below.then_ B.out hb)
      clear hb
      go_wp2
      go_ret
      exact ⟨rfl, B.out⟩
    · have g2 : decide (ks ≤ 0) = false := decide_eq_false hs
      have c_p0 := b_p.out.at0 b_p.out.lt_size (Nat.le_refl _) _ (Below.refl _ _)
      have c_p1 := b_p.out.at1 b_p.out.lt_size (Nat.le_refl _) _ (Below.refl _ _)
      have c_p2 := b_p.out.at2 b_p.out.lt_size (Nat.le_refl _) _ (Below.refl _ _)
      have c_q0 := b_q.out.at0 b_q.out.lt_size (Nat.le_refl _) _ (Below.refl _ _)
      have c_q1 := b_q.out.at1 b_q.out.lt_size (Nat.le_refl _) _ (Below.refl _ _)
      have c_q2 := b_q.out.at2 b_q.out.lt_size (Nat.le_refl _) _ (Below.refl _ _)
      have c_o0 := b_o.out.at0 b_o.out.lt_size (Nat.le_refl _) _ (Below.refl _ _)
      have c_o1 := b_o.out.at1 b_o.out.lt_size (Nat.le_refl _) _ (Below.refl _ _)
      have c_o2 := b_o.out.at2 b_o.out.lt_size (Nat.le_refl _) _ (Below.refl _ _)
      go_wp2_with fail
      refine (sign_q H_p.out (by decide) (Nat.le_refl _) hks.out).mono ?_
      rintro e w41 ⟨rfl, hb⟩
      replace H_p := hide (H_p.out.then_ hb)
      replace H_q := hide (H_q.out.then_ hb)
      replace H_o := hide (H_o.out.then_ hb)
      replace b_p := hide (b_p.out.keep hb)
      replace b_q := hide (b_q.out.keep hb)
      replace b_o := hide (b_o.out.keep hb)
      replace B := hide (Below.then_ B.out hb)
      clear hb
      clear c_p0 c_p1 c_p2
      clear c_q0 c_q1 c_q2
      clear c_o0 c_o1 c_o2
      have c_p0 := b_p.out.at0 b_p.out.lt_size (Nat.le_refl _) _ (Below.refl _ _)
      have c_p1 := b_p.out.at1 b_p.out.lt_size (Nat.le_refl _) _ (Below.refl _ _)
      have c_p2 := b_p.out.at2 b_p.out.lt_size (Nat.le_refl _) _ (Below.refl _ _)
      have c_q0 := b_q.out.at0 b_q.out.lt_size (Nat.le_refl _) _ (Below.refl _ _)
      have c_q1 := b_q.out.at1 b_q.out.lt_size (Nat.le_refl _) _ (Below.refl _ _)
      have c_q2 := b_q.out.at2 b_q.out.lt_size (Nat.le_refl _) _ (Below.refl _ _)
      have c_o0 := b_o.out.at0 b_o.out.lt_size (Nat.le_refl _) _ (Below.refl _ _)
      have c_o1 := b_o.out.at1 b_o.out.lt_size (Nat.le_refl _) _ (Below.refl _ _)
      have c_o2 := b_o.out.at2 b_o.out.lt_size (Nat.le_refl _) _ (Below.refl _ _)
      go_wp2_with fail
      refine (cmp_q H_p.out (by decide) H_o.out.rq (by decide) (Nat.le_refl _) hk1.out).mono ?_
      rintro e w42 ⟨rfl, hb⟩
      replace H_p := hide (H_p.out.then_ hb)
      replace H_q := hide (H_q.out.then_ hb)
      replace H_o := hide (H_o.out.then_ hb)
      replace b_p := hide (b_p.out.keep hb)
      replace b_q := hide (b_q.out.keep hb)
      replace b_o := hide (b_o.out.keep hb)
      replace B := hide (Below.then_ B.out hb)
      clear hb
      clear c_p0 c_p1 c_p2
      clear c_q0 c_q1 c_q2
      clear c_o0 c_o1 c_o2
      go_wp2_with fail
      refine (hA _).mono ?_
      rintro e w43 ⟨rfl, hb⟩
      replace H_p := hide (H_p.out.then_ hb)
      replace H_q := hide (H_q.out.then_ hb)
      replace H_o := hide (H_o.out.then_ hb)
      replace b_p := hide (b_p.out.keep hb)
      replace b_q := hide (b_q.out.keep hb)
      replace b_o := hide (b_o.out.keep hb)
      replace B := hide (Below.then_ B.out hb)
      clear hb
      go_wp2
      go_ret
      exact ⟨rfl, B.out⟩
  | true =>
    have hp1 := hide (show ¬ sgn r.num ≤ 0 from sgn_gt (by have h1 := hyes.out rfl; have h2 := hch0.out; grind))
    obtain ⟨ks, hks⟩ : ∃ k, sgn r.num = k := ⟨_, rfl⟩
    have hksl := hp1.out
    rw [hks] at hksl
    have g1 : decide (ks ≤ 0) = false := decide_eq_false hksl
    obtain ⟨k1, hk1⟩ : ∃ k, sgn (r - 1).num = k := ⟨_, rfl⟩
    obtain ⟨k2, hk2⟩ : ∃ k, sgn (r - u).num = k := ⟨_, rfl⟩
    have hb2 := hide (show k2 ≤ 0 → b = true from fun h => by
      cases b with
      | true => rfl
      | false => rw [← hk2, cmp_le] at h; have h1 := hyes.out rfl; have h2 := hno2.out rfl; exact absurd h1 (by rw [Rat.not_lt]; grind))
    replace hks := hide hks
    replace hk1 := hide hk1
    replace hk2 := hide hk2
    clear hp1 hksl hyes hno hno2
    by_cases h2 : k2 ≤ 0
    · obtain rfl : b = true := hb2.out h2
      have g2 : decide (k2 ≤ 0) = true := decide_eq_true h2
      clear hb2 h2
      have c_p0 := b_p.out.at0 b_p.out.lt_size (Nat.le_refl _) _ (Below.refl _ _)
      have c_p1 := b_p.out.at1 b_p.out.lt_size (Nat.le_refl _) _ (Below.refl _ _)
      have c_p2 := b_p.out.at2 b_p.out.lt_size (Nat.le_refl _) _ (Below.refl _ _)
      have c_q0 := b_q.out.at0 b_q.out.lt_size (Nat.le_refl _) _ (Below.refl _ _)
      have c_q1 := b_q.out.at1 b_q.out.lt_size (Nat.le_refl _) _ (Below.refl _ _)
      have c_q2 := b_q.out.at2 b_q.out.lt_size (Nat.le_refl _) _ (Below.refl _ _)
      have c_o0 := b_o.out.at0 b_o.out.lt_size (Nat.le_refl _) _ (Below.refl _ _)
      have c_o1 := b_o.out.at1 b_o.out.lt_size (Nat.le_refl _) _ (Below.refl _ _)
      have c_o2 := b_o.out.at2 b_o.out.lt_size (Nat.le_refl _) _ (Below.refl _ _)
      go_wp2_with fail
      refine (cmp_q H_p.out (by decide) H_q.out (by decide) (Nat.le_refl _) hk2.out).mono ?_
      rintro e w61 ⟨rfl, hb⟩
      replace H_p := hide (H_p.out.then_ hb)
      replace H_q := hide (H_q.out.then_ hb)
      replace H_o := hide (H_o.out.then_ hb)
      replace b_p := hide (b_p.out.keep hb)
      replace b_q := hide (b_q.out.keep hb)
      replace b_o := hide (b_o.out.keep hb)
      replace B := hide (Below.then_ B.out hb)
      clear hb
      clear c_p0 c_p1 c_p2
      clear c_q0 c_q1 c_q2
      clear c_o0 c_o1 c_o2
      have c_p0 := b_p.out.at0 b_p.out.lt_size (Nat.le_refl _) _ (Below.refl _ _)
      have c_p1 := b_p.out.at1 b_p.out.lt_size (Nat.le_refl _) _ (Below.refl _ _)
      have c_p2 := b_p.out.at2 b_p.out.lt_size (Nat.le_refl _) _ (Below.refl _ _)
      have c_q0 := b_q.out.at0 b_q.out.lt_size (Nat.le_refl _) _ (Below.refl _ _)
      have c_q1 := b_q.out.at1 b_q.out.lt_size (Nat.le_refl _) _ (Below.refl _ _)
      have c_q2 := b_q.out.at2 b_q.out.lt_size (Nat.le_refl _) _ (Below.refl _ _)
      have c_o0 := b_o.out.at0 b_o.out.lt_size (Nat.le_refl _) _ (Below.refl _ _)
      have c_o1 := b_o.out.at1 b_o.out.lt_size (Nat.le_refl _) _ (Below.refl _ _)
      have c_o2 := b_o.out.at2 b_o.out.lt_size (Nat.le_refl _) _ (Below.refl _ _)
      go_wp2_with fail
      refine (sign_q H_p.out (by decide) (Nat.le_refl _) hks.out).mono ?_
      rintro e w62 ⟨rfl, hb⟩
      replace H_p := hide (H_p.out.then_ hb)
      replace H_q := hide (H_q.out.then_ hb)
      replace H_o := hide (H_o.out.then_ hb)
      replace b_p := hide (b_p.out.keep hb)
      replace b_q := hide (b_q.out.keep hb)
      replace b_o := hide (b_o.out.keep hb)
      replace B := hide (Below.then_ B.out hb)
      clear hb
      clear c_p0 c_p1 c_p2
      clear c_q0 c_q1 c_q2
      clear c_o0 c_o1 c_o2
      have c_p0 := b_p.out.at0 b_p.out.lt_size (Nat.le_refl _) _ (Below.refl _ _)
      have c_p1 := b_p.out.at1 b_p.out.lt_size (Nat.le_refl _) _ (Below.refl _ _)
      have c_p2 := b_p.out.at2 b_p.out.lt_size (Nat.le_refl _) _ (Below.refl _ _)
      have c_q0 := b_q.out.at0 b_q.out.lt_size (Nat.le_refl _) _ (Below.refl _ _)
      have c_q1 := b_q.out.at1 b_q.out.lt_size (Nat.le_refl _) _ (Below.refl _ _)
      have c_q2 := b_q.out.at2 b_q.out.lt_size (Nat.le_refl _) _ (Below.refl _ _)
      have c_o0 := b_o.out.at0 b_o.out.lt_size (Nat.le_refl _) _ (Below.refl _ _)
      have c_o1 := b_o.out.at1 b_o.out.lt_size (Nat.le_refl _) _ (Below.refl _ _)
      have c_o2 := b_o.out.at2 b_o.out.lt_size (Nat.le_refl _) _ (Below.refl _ _)
      go_wp2_with fail
      refine (cmp_q H_p.out (by decide) H_o.out.rq (by decide) (Nat.le_refl _) hk1.out).mono ?_
      rintro e w63 ⟨rfl, hb⟩
      replace H_p := hide (H_p.out.then_ hb)
      replace H_q := hide (H_q.out.then_ hb)
      replace H_o := hide (H_o.out.then_ hb)
      replace b_p := hide (b_p.out.keep hb)
      replace b_q := hide (b_q.out.keep hb)
      replace b_o := hide (b_o.out.keep hb)
      replace B := hide (Below.then_ B.out hb)
      clear hb
      clear c_p0 c_p1 c_p2
      clear c_q0 c_q1 c_q2
      clear c_o0 c_o1 c_o2
      clear b_p b_q b_o
      by_cases h3 : 0 ≤ k1
      · have g3 : decide ((0 : Int) ≤ k1) = true := decide_eq_true h3
        clear h3
        go_wp2_with fail
        refine (hA _).mono ?_
        rintro e w81 ⟨rfl, hb⟩
        replace H_p := hide (H_p.out.then_ hb)
        replace H_q := hide (H_q.out.then_ hb)
        replace H_o := hide (H_o.out.then_ hb)
        replace B := hide (Below.then_ B.out hb)
        clear hb
        go_wp2
        go_ret
        exact ⟨rfl, B.out⟩
      · have g3 : decide ((0 : Int) ≤ k1) = false := decide_eq_false h3
        clear h3
        go_wp2_with fail
        refine (hA _).mono ?_
        rintro e w81 ⟨rfl, hb⟩
        replace H_p := hide (H_p.out.then_ hb)
        replace H_q := hide (H_q.out.then_ hb)
        replace H_o := hide (H_o.out.then_ hb)
        replace B := hide (Below.then_ B.out hb)
        clear hb
        go_wp2
        go_ret
        exact ⟨rfl, B.out⟩
    · have g2 : decide (k2 ≤ 0) = false := decide_eq_false h2
      clear hb2 h2
      have c_p0 := b_p.out.at0 b_p.out.lt_size (Nat.le_refl _) _ (Below.refl _ _)
      have c_p1 := b_p.out.at1 b_p.out.lt_size (Nat.le_refl _) _ (Below.refl _ _)
      have c_p2 := b_p.out.at2 b_p.out.lt_size (Nat.le_refl _) _ (Below.refl _ _)
      have c_q0 := b_q.out.at0 b_q.out.lt_size (Nat.le_refl _) _ (Below.refl _ _)
      have c_q1 := b_q.out.at1 b_q.out.lt_size (Nat.le_refl _) _ (Below.refl _ _)
      have c_q2 := b_q.out.at2 b_q.out.lt_size (Nat.le_refl _) _ (Below.refl _ _)
      have c_o0 := b_o.out.at0 b_o.out.lt_size (Nat.le_refl _) _ (Below.refl _ _)
      have c_o1 := b_o.out.at1 b_o.out.lt_size (Nat.le_refl _) _ (Below.refl _ _)
      have c_o2 := b_o.out.at2 b_o.out.lt_size (Nat.le_refl _) _ (Below.refl _ _)
      go_wp2_with fail
      refine (cmp_q H_p.out (by decide) H_q.out (by decide) (Nat.le_refl _) hk2.out).mono ?_
      rintro e w61 ⟨rfl, hb⟩
      replace H_p := hide (H_p.out.then_ hb)
      replace H_q := hide (H_q.out.then_ hb)
      replace H_o := hide (H_o.out.then_ hb)
      replace b_p := hide (b_p.out.keep hb)
      replace b_q := hide (b_q.out.keep hb)
      replace b_o := hide (b_o.out.keep hb)
      replace B := hide (Below.then_ B.out hb)
      clear hb
      clear c_p0 c_p1 c_p2
      clear c_q0 c_q1 c_q2
      clear c_o0 c_o1 c_o2
      have c_p0 := b_p.out.at0 b_p.out.lt_size (Nat.le_refl _) _ (Below.refl _ _)
      have c_p1 := b_p.out.at1 b_p.out.lt_size (Nat.le_refl _) _ (Below.refl _ _)
      have c_p2 := b_p.out.at2 b_p.out.lt_size (Nat.le_refl _) _ (Below.refl _ _)
      have c_q0 := b_q.out.at0 b_q.out.lt_size (Nat.le_refl _) _ (Below.refl _ _)
      have c_q1 := b_q.out.at1 b_q.out.lt_size (Nat.le_refl _) _ (Below.refl _ _)
      have c_q2 := b_q.out.at2 b_q.out.lt_size (Nat.le_refl _) _ (Below.refl _ _)
      have c_o0 := b_o.out.at0 b_o.out.lt_size (Nat.le_refl _) _ (Below.refl _ _)
      have c_o1 := b_o.out.at1 b_o.out.lt_size (Nat.le_refl _) _ (Below.refl _ _)
      have c_o2 := b_o.out.at2 b_o.out.lt_size (Nat.le_refl _) _ (Below.refl _ _)
      go_wp2_with fail
      refine (sign_q H_p.out (by decide) (Nat.le_refl _) hks.out).mono ?_
      rintro e w62 ⟨rfl, hb⟩
      replace H_p := hide (H_p.out.then_ hb)
      replace H_q := hide (H_q.out.then_ hb)
      replace H_o := hide (H_o.out.then_ hb)
      replace b_p := hide (b_p.out.keep hb)
      replace b_q := hide (b_q.out.keep hb)
      replace b_o := hide (b_o.out.keep hb)
      replace B := hide (Below.then_ B.out hb)
      clear hb
      clear c_p0 c_p1 c_p2
      clear c_q0 c_q1 c_q2
      clear c_o0 c_o1 c_o2
      have c_p0 := b_p.out.at0 b_p.out.lt_size (Nat.le_refl _) _ (Below.refl _ _)
      have c_p1 := b_p.out.at1 b_p.out.lt_size (Nat.le_refl _) _ (Below.refl _ _)
      have c_p2 := b_p.out.at2 b_p.out.lt_size (Nat.le_refl _) _ (Below.refl _ _)
      have c_q0 := b_q.out.at0 b_q.out.lt_size (Nat.le_refl _) _ (Below.refl _ _)
      have c_q1 := b_q.out.at1 b_q.out.lt_size (Nat.le_refl _) _ (Below.refl _ _)
      have c_q2 := b_q.out.at2 b_q.out.lt_size (Nat.le_refl _) _ (Below.refl _ _)
      have c_o0 := b_o.out.at0 b_o.out.lt_size (Nat.le_refl _) _ (Below.refl _ _)
      have c_o1 := b_o.out.at1 b_o.out.lt_size (Nat.le_refl _) _ (Below.refl _ _)
      have c_o2 := b_o.out.at2 b_o.out.lt_size (Nat.le_refl _) _ (Below.refl _ _)
      go_wp2_with fail
      refine (cmp_q H_p.out (by decide) H_o.out.rq (by decide) (Nat.le_refl _) hk1.out).mono ?_
      rintro e w63 ⟨rfl, hb⟩
      replace H_p := hide (H_p.out.then_ hb)
      replace H_q := hide (H_q.out.then_ hb)
      replace H_o := hide (H_o.out.then_ hb)
      replace b_p := hide (b_p.out.keep hb)
      replace b_q := hide (b_q.out.keep hb)
      replace b_o := hide (b_o.out.keep hb)
      replace B := hide (Below.then_ B.out hb)
      clear hb
      clear c_p0 c_p1 c_p2
      clear c_q0 c_q1 c_q2
      clear c_o0 c_o1 c_o2
      clear b_p b_q b_o
      by_cases h3 : 0 ≤ k1
      · have g3 : decide ((0 : Int) ≤ k1) = true := decide_eq_true h3
        clear h3
        go_wp2_with fail
        refine (hA _).mono ?_
        rintro e w81 ⟨rfl, hb⟩
        replace H_p := hide (H_p.out.then_ hb)
        replace H_q := hide (H_q.out.then_ hb)
        replace H_o := hide (H_o.out.then_ hb)
        replace B := hide (Below.then_ B.out hb)
        clear hb
        go_wp2
        go_ret
        exact ⟨rfl, B.out⟩
      · have g3 : decide ((0 : Int) ≤ k1) = false := decide_eq_false h3
        clear h3
        go_wp2_with fail
        refine (hA _).mono ?_
        rintro e w81 ⟨rfl, hb⟩
        replace H_p := hide (H_p.out.then_ hb)
        replace H_q := hide (H_q.out.then_ hb)
        replace H_o := hide (H_o.out.then_ hb)
        replace B := hide (Below.then_ B.out hb)
        clear hb
        go_wp2
        go_ret
        exact ⟨rfl, B.out⟩
theorem ranges_walk (hA : ∀ w : World, Calls Try.prog 27 #[] w (RetB w (.bool true))) {w : World} {d : Nat} {p q : Rc} {r u : Rat} (hd : d < 18446744073709551616) {n m : Int} (hn : I64 n) (hm : I64 m) (h_p : Rq w w.heap.size 1048576 p r) (h_q : Rq w w.heap.size 1048576 q u) : Calls Try.prog 8 #[.int .u64 (d : Int), .int .i64 n, .int .i64 m, .agg #[.bool p.s, .slice p.A p.n p.c, .slice p.B p.m p.d], .agg #[.bool q.s, .slice q.A q.n q.c, .slice q.B q.m q.d]] w (RetB w (.bool true)) := by
  by_cases h1 : n < 1
  · exact ranges_low hA hd hn hm h1 h_p h_q
  · by_cases h2 : 2147483648 < n
    · exact ranges_high hA hd hn hm h2 h_p h_q
    · by_cases h3 : m < n
      · exact ranges_less hA hd hn hm (by omega) (by omega) h3 h_p h_q
      · by_cases h4 : 2147483648 < m
        · exact ranges_much hA hd hn hm (by omega) (by omega) (by omega) h4 h_p h_q
        · exact ranges_mono hA hd hn hm (by omega) (by omega) (by omega) (by omega) h_p h_q
end Go.Proofs.Ytdihgmbldnekhaa
