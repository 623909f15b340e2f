/-
  adds: the means and the variances add up.
-/
import Derived.Test.YtonpeagedggakaaExch7
import Derived.Deep.RegionHeld3
namespace Go.Proofs.Ytonpeagedggakaa
open Go.RowKit

def vrn (q : Nat → Rat) (n : Nat) : Rat := qs (mq 2 q) n - qs (mq 1 q) n * qs (mq 1 q) n
set_option maxHeartbeats 16000000 in
set_option maxRecDepth 100000 in
theorem adds_true {w : World} {Bd L K : Nat} (gL : L ≤ 400000000) (gK : K ≤ 10000000) (hB : Bd ≤ w.heap.size) {A1 : Option Addr} {n1 c1 : Nat} {X1 : Nat → Rc} {q1 : Nat → Rat} (hx1 : LQ (fun _ => true) w Bd L A1 n1 c1 X1 q1) (hc1 : CmH w Bd n1 X1 q1 K) (hv1 : VldQ n1 q1) {A2 : Option Addr} {n2 c2 : Nat} {X2 : Nat → Rc} {q2 : Nat → Rat} (hx2 : LQ (fun _ => true) w Bd L A2 n2 c2 X2 q2) (hc2 : CmH w Bd n2 X2 q2 K) (hv2 : VldQ n2 q2) {A3 : Option Addr} {n3 c3 : Nat} {X3 : Nat → Rc} {q3 : Nat → Rat} (hx3 : LQ (fun _ => true) w Bd L A3 n3 c3 X3 q3) (hc3 : CmH w Bd n3 X3 q3 K) (hv3 : VldQ n3 q3)
    (hm : qs (mq 1 q1) n1 + qs (mq 1 q2) n2 = qs (mq 1 q3) n3) (hvar : vrn q1 n1 + vrn q2 n2 = vrn q3 n3) :
    Calls Try.prog 11 #[.slice A1 n1 c1, .slice A2 n2 c2, .slice A3 n3 c3] w (RetB w (.bool true)) := by
  have B := hide (Below.refl w.heap.size w)
  have L1 := hide (hx1.upto (Below.refl _ _) hB)
  have C1 := hide (hc1.upto (Below.refl _ _) hB)
  have V1 := hide (vl_yes hv1)
  have hcap1 := hx1.cap
  have hcb1 := hx1.cbig
  have L2 := hide (hx2.upto (Below.refl _ _) hB)
  have C2 := hide (hc2.upto (Below.refl _ _) hB)
  have V2 := hide (vl_yes hv2)
  have hcap2 := hx2.cap
  have hcb2 := hx2.cbig
  have L3 := hide (hx3.upto (Below.refl _ _) hB)
  have C3 := hide (hc3.upto (Below.refl _ _) hB)
  have V3 := hide (vl_yes hv3)
  have hcap3 := hx3.cap
  have hcb3 := hx3.cbig
  have hmh := hide hm
  have hvarh := hide (show (qs (mq 2 q1) n1 - qs (mq 1 q1) n1 * qs (mq 1 q1) n1) + (qs (mq 2 q2) n2 - qs (mq 1 q2) n2 * qs (mq 1 q2) n2) = qs (mq 2 q3) n3 - qs (mq 1 q3) n3 * qs (mq 1 q3) n3 from hvar)
  have gK2 : K ≤ 130000000 := by omega
  have gA : K + 2 ≤ 400000000 := by omega
  have gS : K + 2 + (K + 2) + 3 ≤ 400000000 := by omega
  have gV : 3 * K + 11 ≤ 400000000 := by omega
  have gT : 3 * K + 11 + (3 * K + 11) + 3 ≤ 400000000 := by omega
  clear hB hx1 hx2 hx3 hc1 hc2 hc3 hv1 hv2 hv3 hm hvar
  go_enter Try.func11, Try.ntmps11
  go_wp2_with fail
  refine ((mean_p (L1.out.then_ B.out) gL (Nat.le_refl _) (C1.out.then_ B.out) gK2 V1.out).mono fun _ _ h => RetRE.fix rfl rfl h).mono ?_
  rintro e w1 ⟨x_x, rfl, H_x, hb⟩
  replace B := hide (Below.then_ B.out hb)
  clear hb
  replace H_x := hide H_x
  have g_x := hide (show w.heap.size ≤ w1.heap.size from B.out.size)
  have b_x := hide (Box3.new w1 (.bool x_x.s) (.slice x_x.A x_x.n x_x.c) (.slice x_x.B x_x.m x_x.d) rfl)
  have hb : Below w1.heap.size w1 (w1.alloc (.cells #[.bool x_x.s, .slice x_x.A x_x.n x_x.c, .slice x_x.B x_x.m x_x.d] 37)) := Below.al_ (Below.refl _ _) _
  replace H_x := hide (H_x.out.then_ hb)
  replace B := hide (Below.then_ B.out hb)
  clear hb
  go_wp2_with fail
  refine ((mean_p (L2.out.then_ B.out) gL (Nat.le_refl _) (C2.out.then_ B.out) gK2 V2.out).mono fun _ _ h => RetRE.fix rfl rfl h).mono ?_
  rintro e w2 ⟨x_y, rfl, H_y, hb⟩
  replace H_x := hide (H_x.out.then_ hb)
  replace b_x := hide (b_x.out.keep hb)
  replace B := hide (Below.then_ B.out hb)
  clear hb
  replace H_y := hide H_y
  have g_y := hide (show w.heap.size ≤ w2.heap.size from B.out.size)
  have n_y := hide (show w1.heap.size < w2.heap.size from b_x.out.lt_size)
  have b_y := hide (Box3.new w2 (.bool x_y.s) (.slice x_y.A x_y.n x_y.c) (.slice x_y.B x_y.m x_y.d) rfl)
  have hb : Below w2.heap.size w2 (w2.alloc (.cells #[.bool x_y.s, .slice x_y.A x_y.n x_y.c, .slice x_y.B x_y.m x_y.d] 37)) := Below.al_ (Below.refl _ _) _
  replace H_x := hide (H_x.out.then_ hb)
  replace H_y := hide (H_y.out.then_ hb)
  replace b_x := hide (b_x.out.keep hb)
  replace B := hide (Below.then_ B.out hb)
  clear hb
  go_wp2_with fail
  refine ((mean_p (L3.out.then_ B.out) gL (Nat.le_refl _) (C3.out.then_ B.out) gK2 V3.out).mono fun _ _ h => RetRE.fix rfl rfl h).mono ?_
  rintro e w3 ⟨x_z, rfl, H_z, hb⟩
  replace H_x := hide (H_x.out.then_ hb)
  replace H_y := hide (H_y.out.then_ hb)
  replace b_x := hide (b_x.out.keep hb)
  replace b_y := hide (b_y.out.keep hb)
  replace B := hide (Below.then_ B.out hb)
  clear hb
  replace H_z := hide H_z
  have g_z := hide (show w.heap.size ≤ w3.heap.size from B.out.size)
  have n_z := hide (show w2.heap.size < w3.heap.size from b_y.out.lt_size)
  have b_z := hide (Box3.new w3 (.bool x_z.s) (.slice x_z.A x_z.n x_z.c) (.slice x_z.B x_z.m x_z.d) rfl)
  have hb : Below w3.heap.size w3 (w3.alloc (.cells #[.bool x_z.s, .slice x_z.A x_z.n x_z.c, .slice x_z.B x_z.m x_z.d] 37)) := Below.al_ (Below.refl _ _) _
  replace H_x := hide (H_x.out.then_ hb)
  replace H_y := hide (H_y.out.then_ hb)
  replace H_z := hide (H_z.out.then_ hb)
  replace b_x := hide (b_x.out.keep hb)
  replace b_y := hide (b_y.out.keep hb)
  replace B := hide (Below.then_ B.out hb)
  clear hb
  go_wp2_with fail
  obtain ⟨V, hV⟩ : ∃ V, V = (w3.alloc (.cells #[.bool x_z.s, .slice x_z.A x_z.n x_z.c, .slice x_z.B x_z.m x_z.d] 37)) := ⟨_, rfl⟩
  rw [← hV] at H_x H_y H_z b_x b_y b_z B ⊢
  clear hV
  have c_x0 := b_x.out.at0 b_x.out.lt_size (Nat.le_refl _)
  have c_x1 := b_x.out.at1 b_x.out.lt_size (Nat.le_refl _)
  have c_x2 := b_x.out.at2 b_x.out.lt_size (Nat.le_refl _)
  have c_y0 := b_y.out.at0 b_y.out.lt_size (Nat.le_refl _)
  have c_y1 := b_y.out.at1 b_y.out.lt_size (Nat.le_refl _)
  have c_y2 := b_y.out.at2 b_y.out.lt_size (Nat.le_refl _)
  have c_z0 := b_z.out.at0 b_z.out.lt_size (Nat.le_refl _)
  have c_z1 := b_z.out.at1 b_z.out.lt_size (Nat.le_refl _)
  have c_z2 := b_z.out.at2 b_z.out.lt_size (Nat.le_refl _)
  have hbx := Below.drw_ V
  have RX := hide H_x.out.rq
  have RY := hide H_y.out.rq
  have RZ := hide H_z.out.rq
  go_region_held3 (fun w' => Below V.heap.size V w') (first | (with_reducible assumption)) (first | (go_at_call 20; (with_reducible refine (add_q (RX.out.then_ hbx) gA (RY.out.then_ hbx) gA (Nat.le_refl _) hmh.out).mono ?_); rintro e w8 ⟨x8, rfl, R8, hb8⟩; have U8 : Below V.heap.size V w8 := Below.then_ hbx hb8; replace R8 := hide R8; clear hb8) | (go_at_call 16; (with_reducible refine (cmp_q R8.out.rq gS (RZ.out.then_ U8) gA (Nat.le_refl _) (cmp_eq.2 rfl)).mono ?_); rintro e w9 ⟨rfl, hb9⟩; have U9 : Below V.heap.size V w9 := Below.then_ U8 hb9; clear hb9 R8))
  all_goals
    clear c_x0 c_x1 c_x2 c_y0 c_y1 c_y2 c_z0 c_z1 c_z2 hbx RX RY RZ H_x H_y H_z U8
    have hb := U9
    replace b_x := hide (b_x.out.keep hb)
    replace b_y := hide (b_y.out.keep hb)
    replace b_z := hide (b_z.out.keep hb)
    replace B := hide (Below.then_ B.out hb)
    clear hb U9
    go_wp2_with fail
    refine ((variance_p (L1.out.then_ B.out) gL (Nat.le_refl _) (C1.out.then_ B.out) gK2 V1.out).mono fun _ _ h => RetRE.fix rfl rfl h).mono ?_
    rintro e w10 ⟨x_a, rfl, H_a, hb⟩
    replace b_x := hide (b_x.out.keep hb)
    replace b_y := hide (b_y.out.keep hb)
    replace b_z := hide (b_z.out.keep hb)
    replace B := hide (Below.then_ B.out hb)
    clear hb
    replace H_a := hide H_a
    have c_u0 := b_x.out.at0 b_x.out.lt_size (Nat.le_refl _) w10 (Below.refl _ _)
    have f_u0 := b_x.out.free0 b_x.out.lt_size (Nat.le_refl _) w10 (Below.refl _ _)
    have c_u1 := b_x.out.at1 b_x.out.lt_size (Nat.le_refl _) w10 (Below.refl _ _)
    have f_u1 := b_x.out.free1 b_x.out.lt_size (Nat.le_refl _) w10 (Below.refl _ _)
    have c_u2 := b_x.out.at2 b_x.out.lt_size (Nat.le_refl _) w10 (Below.refl _ _)
    have f_u2 := b_x.out.free2 b_x.out.lt_size (Nat.le_refl _) w10 (Below.refl _ _)
    have l_u := b_x.out.lt_size
    replace b_y := hide (Box3.other (Box3.other (Box3.other b_y.out (show w2.heap.size ≠ w1.heap.size by have := n_y.out; have := n_z.out; omega) (.bool x_a.s) (o := 0)) (show w2.heap.size ≠ w1.heap.size by have := n_y.out; have := n_z.out; omega) (.slice x_a.A x_a.n x_a.c) (o := 1)) (show w2.heap.size ≠ w1.heap.size by have := n_y.out; have := n_z.out; omega) (.slice x_a.B x_a.m x_a.d) (o := 2))
    replace b_z := hide (Box3.other (Box3.other (Box3.other b_z.out (show w3.heap.size ≠ w1.heap.size by have := n_y.out; have := n_z.out; omega) (.bool x_a.s) (o := 0)) (show w3.heap.size ≠ w1.heap.size by have := n_y.out; have := n_z.out; omega) (.slice x_a.A x_a.n x_a.c) (o := 1)) (show w3.heap.size ≠ w1.heap.size by have := n_y.out; have := n_z.out; omega) (.slice x_a.B x_a.m x_a.d) (o := 2))
    have b_x' := hide (b_x.out.set (.bool x_a.s) (.slice x_a.A x_a.n x_a.c) (.slice x_a.B x_a.m x_a.d))
    clear b_x
    have b_x := b_x'
    clear b_x'
    replace B := hide (((Below.setCell (p := ⟨w1.heap.size, 0, none⟩) B.out g_x.out (.bool x_a.s)).setCell (p := ⟨w1.heap.size, 1, none⟩) g_x.out (.slice x_a.A x_a.n x_a.c)).setCell (p := ⟨w1.heap.size, 2, none⟩) g_x.out (.slice x_a.B x_a.m x_a.d))
    replace H_a := hide (H_a.out.set3 (y := x_x) c_u0 c_u1 c_u2 (.bool x_a.s) (.slice x_a.A x_a.n x_a.c) (.slice x_a.B x_a.m x_a.d))
    go_wp2_with fail
    obtain ⟨V1', hV⟩ : ∃ V, V = (((w10.setCell ⟨w1.heap.size, 0, none⟩ (.bool x_a.s)).setCell ⟨w1.heap.size, 1, none⟩ (.slice x_a.A x_a.n x_a.c)).setCell ⟨w1.heap.size, 2, none⟩ (.slice x_a.B x_a.m x_a.d)) := ⟨_, rfl⟩
    rw [← hV] at H_a b_x b_y b_z B ⊢
    clear hV c_u0 c_u1 c_u2 f_u0 f_u1 f_u2 l_u
    go_wp2_with fail
    refine ((variance_p (L2.out.then_ B.out) gL (Nat.le_refl _) (C2.out.then_ B.out) gK2 V2.out).mono fun _ _ h => RetRE.fix rfl rfl h).mono ?_
    rintro e w11 ⟨x_b, rfl, H_b, hb⟩
    replace H_a := hide (H_a.out.then_ hb)
    replace b_x := hide (b_x.out.keep hb)
    replace b_y := hide (b_y.out.keep hb)
    replace b_z := hide (b_z.out.keep hb)
    replace B := hide (Below.then_ B.out hb)
    clear hb
    replace H_b := hide H_b
    have c_u0 := b_y.out.at0 b_y.out.lt_size (Nat.le_refl _) w11 (Below.refl _ _)
    have f_u0 := b_y.out.free0 b_y.out.lt_size (Nat.le_refl _) w11 (Below.refl _ _)
    have c_u1 := b_y.out.at1 b_y.out.lt_size (Nat.le_refl _) w11 (Below.refl _ _)
    have f_u1 := b_y.out.free1 b_y.out.lt_size (Nat.le_refl _) w11 (Below.refl _ _)
    have c_u2 := b_y.out.at2 b_y.out.lt_size (Nat.le_refl _) w11 (Below.refl _ _)
    have f_u2 := b_y.out.free2 b_y.out.lt_size (Nat.le_refl _) w11 (Below.refl _ _)
    have l_u := b_y.out.lt_size
    replace b_x := hide (Box3.other (Box3.other (Box3.other b_x.out (show w1.heap.size ≠ w2.heap.size by have := n_y.out; have := n_z.out; omega) (.bool x_b.s) (o := 0)) (show w1.heap.size ≠ w2.heap.size by have := n_y.out; have := n_z.out; omega) (.slice x_b.A x_b.n x_b.c) (o := 1)) (show w1.heap.size ≠ w2.heap.size by have := n_y.out; have := n_z.out; omega) (.slice x_b.B x_b.m x_b.d) (o := 2))
    replace b_z := hide (Box3.other (Box3.other (Box3.other b_z.out (show w3.heap.size ≠ w2.heap.size by have := n_y.out; have := n_z.out; omega) (.bool x_b.s) (o := 0)) (show w3.heap.size ≠ w2.heap.size by have := n_y.out; have := n_z.out; omega) (.slice x_b.A x_b.n x_b.c) (o := 1)) (show w3.heap.size ≠ w2.heap.size by have := n_y.out; have := n_z.out; omega) (.slice x_b.B x_b.m x_b.d) (o := 2))
    have b_y' := hide (b_y.out.set (.bool x_b.s) (.slice x_b.A x_b.n x_b.c) (.slice x_b.B x_b.m x_b.d))
    clear b_y
    have b_y := b_y'
    clear b_y'
    replace B := hide (((Below.setCell (p := ⟨w2.heap.size, 0, none⟩) B.out g_y.out (.bool x_b.s)).setCell (p := ⟨w2.heap.size, 1, none⟩) g_y.out (.slice x_b.A x_b.n x_b.c)).setCell (p := ⟨w2.heap.size, 2, none⟩) g_y.out (.slice x_b.B x_b.m x_b.d))
    replace H_a := hide (H_a.out.set3 (y := x_y) c_u0 c_u1 c_u2 (.bool x_b.s) (.slice x_b.A x_b.n x_b.c) (.slice x_b.B x_b.m x_b.d))
    replace H_b := hide (H_b.out.set3 (y := x_y) c_u0 c_u1 c_u2 (.bool x_b.s) (.slice x_b.A x_b.n x_b.c) (.slice x_b.B x_b.m x_b.d))
    go_wp2_with fail
    obtain ⟨V2', hV⟩ : ∃ V, V = (((w11.setCell ⟨w2.heap.size, 0, none⟩ (.bool x_b.s)).setCell ⟨w2.heap.size, 1, none⟩ (.slice x_b.A x_b.n x_b.c)).setCell ⟨w2.heap.size, 2, none⟩ (.slice x_b.B x_b.m x_b.d)) := ⟨_, rfl⟩
    rw [← hV] at H_a H_b b_x b_y b_z B ⊢
    clear hV c_u0 c_u1 c_u2 f_u0 f_u1 f_u2 l_u
    go_wp2_with fail
    refine ((variance_p (L3.out.then_ B.out) gL (Nat.le_refl _) (C3.out.then_ B.out) gK2 V3.out).mono fun _ _ h => RetRE.fix rfl rfl h).mono ?_
    rintro e w12 ⟨x_d, rfl, H_d, hb⟩
    replace H_a := hide (H_a.out.then_ hb)
    replace H_b := hide (H_b.out.then_ hb)
    replace b_x := hide (b_x.out.keep hb)
    replace b_y := hide (b_y.out.keep hb)
    replace b_z := hide (b_z.out.keep hb)
    replace B := hide (Below.then_ B.out hb)
    clear hb
    replace H_d := hide H_d
    have c_u0 := b_z.out.at0 b_z.out.lt_size (Nat.le_refl _) w12 (Below.refl _ _)
    have f_u0 := b_z.out.free0 b_z.out.lt_size (Nat.le_refl _) w12 (Below.refl _ _)
    have c_u1 := b_z.out.at1 b_z.out.lt_size (Nat.le_refl _) w12 (Below.refl _ _)
    have f_u1 := b_z.out.free1 b_z.out.lt_size (Nat.le_refl _) w12 (Below.refl _ _)
    have c_u2 := b_z.out.at2 b_z.out.lt_size (Nat.le_refl _) w12 (Below.refl _ _)
    have f_u2 := b_z.out.free2 b_z.out.lt_size (Nat.le_refl _) w12 (Below.refl _ _)
    have l_u := b_z.out.lt_size
    replace b_x := hide (Box3.other (Box3.other (Box3.other b_x.out (show w1.heap.size ≠ w3.heap.size by have := n_y.out; have := n_z.out; omega) (.bool x_d.s) (o := 0)) (show w1.heap.size ≠ w3.heap.size by have := n_y.out; have := n_z.out; omega) (.slice x_d.A x_d.n x_d.c) (o := 1)) (show w1.heap.size ≠ w3.heap.size by have := n_y.out; have := n_z.out; omega) (.slice x_d.B x_d.m x_d.d) (o := 2))
    replace b_y := hide (Box3.other (Box3.other (Box3.other b_y.out (show w2.heap.size ≠ w3.heap.size by have := n_y.out; have := n_z.out; omega) (.bool x_d.s) (o := 0)) (show w2.heap.size ≠ w3.heap.size by have := n_y.out; have := n_z.out; omega) (.slice x_d.A x_d.n x_d.c) (o := 1)) (show w2.heap.size ≠ w3.heap.size by have := n_y.out; have := n_z.out; omega) (.slice x_d.B x_d.m x_d.d) (o := 2))
    have b_z' := hide (b_z.out.set (.bool x_d.s) (.slice x_d.A x_d.n x_d.c) (.slice x_d.B x_d.m x_d.d))
    clear b_z
    have b_z := b_z'
    clear b_z'
    replace B := hide (((Below.setCell (p := ⟨w3.heap.size, 0, none⟩) B.out g_z.out (.bool x_d.s)).setCell (p := ⟨w3.heap.size, 1, none⟩) g_z.out (.slice x_d.A x_d.n x_d.c)).setCell (p := ⟨w3.heap.size, 2, none⟩) g_z.out (.slice x_d.B x_d.m x_d.d))
    replace H_a := hide (H_a.out.set3 (y := x_z) c_u0 c_u1 c_u2 (.bool x_d.s) (.slice x_d.A x_d.n x_d.c) (.slice x_d.B x_d.m x_d.d))
    replace H_b := hide (H_b.out.set3 (y := x_z) c_u0 c_u1 c_u2 (.bool x_d.s) (.slice x_d.A x_d.n x_d.c) (.slice x_d.B x_d.m x_d.d))
    replace H_d := hide (H_d.out.set3 (y := x_z) c_u0 c_u1 c_u2 (.bool x_d.s) (.slice x_d.A x_d.n x_d.c) (.slice x_d.B x_d.m x_d.d))
    go_wp2_with fail
    obtain ⟨V3', hV⟩ : ∃ V, V = (((w12.setCell ⟨w3.heap.size, 0, none⟩ (.bool x_d.s)).setCell ⟨w3.heap.size, 1, none⟩ (.slice x_d.A x_d.n x_d.c)).setCell ⟨w3.heap.size, 2, none⟩ (.slice x_d.B x_d.m x_d.d)) := ⟨_, rfl⟩
    rw [← hV] at H_a H_b H_d b_x b_y b_z B ⊢
    clear hV c_u0 c_u1 c_u2 f_u0 f_u1 f_u2 l_u
    have c_x0 := b_x.out.at0 b_x.out.lt_size (Nat.le_refl _)
    have c_x1 := b_x.out.at1 b_x.out.lt_size (Nat.le_refl _)
    have c_x2 := b_x.out.at2 b_x.out.lt_size (Nat.le_refl _)
    have c_y0 := b_y.out.at0 b_y.out.lt_size (Nat.le_refl _)
    have c_y1 := b_y.out.at1 b_y.out.lt_size (Nat.le_refl _)
    have c_y2 := b_y.out.at2 b_y.out.lt_size (Nat.le_refl _)
    have c_z0 := b_z.out.at0 b_z.out.lt_size (Nat.le_refl _)
    have c_z1 := b_z.out.at1 b_z.out.lt_size (Nat.le_refl _)
    have c_z2 := b_z.out.at2 b_z.out.lt_size (Nat.le_refl _)
    have hbx := Below.drw_ V3'
    have RX := hide H_a.out.rq
    have RY := hide H_b.out.rq
    have RZ := hide H_d.out.rq
    go_region_held3 (fun w' => Below V3'.heap.size V3' w') (first | (with_reducible assumption)) (first | (go_at_call 20; (with_reducible refine (add_q (RX.out.then_ hbx) gV (RY.out.then_ hbx) gV (Nat.le_refl _) hvarh.out).mono ?_); rintro e w18 ⟨x8, rfl, R8, hb8⟩; have U8 : Below V3'.heap.size V3' w18 := Below.then_ hbx hb8; replace R8 := hide R8; clear hb8) | (go_at_call 16; (with_reducible refine (cmp_q R8.out.rq gT (RZ.out.then_ U8) gV (Nat.le_refl _) (cmp_eq.2 rfl)).mono ?_); rintro e w19 ⟨rfl, hb9⟩; have U9 : Below V3'.heap.size V3' w19 := Below.then_ U8 hb9; have B9 := hide (Below.then_ B.out U9); clear hb9 R8))
    all_goals
      go_wp2
      go_ret
      exact ⟨rfl, B9.out⟩
end Go.Proofs.Ytonpeagedggakaa
