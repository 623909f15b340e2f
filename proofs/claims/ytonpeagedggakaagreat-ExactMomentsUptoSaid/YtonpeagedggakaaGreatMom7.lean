/-
  ExactMoments.
-/
import Derived.Test.YtonpeagedggakaaGreatExch7
import Derived.Test.YtonpeagedggakaaGreatExRF
namespace Go.Proofs.YtonpeagedggakaaGreat
open Go.RowKit

theorem Alike3.zero (w : World) (Bd : Nat) : Alike3 w Bd zeroRc zeroRc := ⟨rfl, [], [], Rd.empty _ _ _ (by decide), Rd.empty _ _ _ (by decide), Rd.empty _ _ _ (by decide), Rd.empty _ _ _ (by decide)⟩
theorem Alike3.then_ {w w' : World} {x y : Rc} (h : Alike3 w w.heap.size x y) (hb : Below w.heap.size w w') : Alike3 w' w'.heap.size x y := h.upto hb (Nat.le_refl _)
/-- two results of the same value, or both nothing -/
def RetPr (w : World) (L : Nat) (q : Rat) (ok : Bool) (e : Ending) (w' : World) : Prop :=
  ∃ x : Rc, e = .returned (.tuple #[.agg #[.bool x.s, .slice x.A x.n x.c, .slice x.B x.m x.d], .int .i64 (if ok = true then 0 else 1)]) ∧ (if ok = true then Nq w' w'.heap.size L x q else x = zeroRc) ∧ Below w.heap.size w w'
theorem RetRE.pr {w : World} {L : Nat} {q : Rat} {ok : Bool} {e : Ending} {w' : World} (h : RetRE w L q (if ok = true then 0 else 1) e w') : RetPr w L q ok e w' := by
  obtain ⟨x, h1, h2, h3, h4⟩ := h
  refine ⟨x, h1, ?_, h4⟩
  cases ok with
  | true => exact h2 rfl
  | false => exact h3 (by simp)
set_option maxHeartbeats 16000000 in
set_option maxRecDepth 100000 in
theorem moments_true (hA : ∀ w : World, Calls Tryz.prog 14 #[] w (RetB w (.bool true))) {w : World} {A : Option Addr} {n c : Nat} {X : Nat → Rc} {q : Nat → Rat} (hx : LQ (fun _ => false) w w.heap.size 1048576 A n c X q) (hs : n + szs X n ≤ 1048576) (hra : vlB n q = true) : Calls Tryz.prog 3 #[.slice A n c] w (RetB w (.bool true)) := by
  have B := hide (Below.refl w.heap.size w)
  have H_l := hide hx
  have hcap := hx.cap
  have hcb := hx.cbig
  have hsh := hide (show szs X n + 1 ≤ 1048577 by omega)
  replace hra := hide hra
  clear hx hs
  go_enter Tryz.func3, Tryz.ntmps3
  go_wp2_with fail
  refine ((mean_p H_l.out (by decide) (Nat.le_refl _) (CmH.any (K := 1048577) H_l.out (by decide) (by decide) hsh.out) (by decide) hra.out).mono fun _ _ h => RetRE.fix rfl rfl h).mono ?_
  rintro e w1 ⟨x_m, rfl, H_m, hb⟩
  replace H_l := hide (H_l.out.then_ hb)
  replace B := hide (Below.then_ B.out hb)
  clear hb
  replace H_m := hide H_m
  have b_m := hide (Box3.new w1 (.bool x_m.s) (.slice x_m.A x_m.n x_m.c) (.slice x_m.B x_m.m x_m.d) rfl)
  have hb : Below w1.heap.size w1 (w1.alloc (.cells #[.bool x_m.s, .slice x_m.A x_m.n x_m.c, .slice x_m.B x_m.m x_m.d] 28)) := Below.al_ (Below.refl _ _) _
  replace H_l := hide (H_l.out.then_ hb)
  replace H_m := hide (H_m.out.then_ hb)
  replace B := hide (Below.then_ B.out hb)
  clear hb
  go_wp2_with fail
  refine ((rmean_q H_l.out (Nat.le_refl _) hra.out).mono fun _ _ h => RetRE.fix rfl rfl h).mono ?_
  rintro e w2 ⟨x_u, rfl, H_u, hb⟩
  replace H_l := hide (H_l.out.then_ hb)
  replace H_m := hide (H_m.out.then_ hb)
  replace b_m := hide (b_m.out.keep hb)
  replace B := hide (Below.then_ B.out hb)
  clear hb
  replace H_u := hide H_u
  have hge := hide (show w.heap.size ≤ w2.heap.size from B.out.size)
  have b_u := hide (Box3.new w2 (.bool x_u.s) (.slice x_u.A x_u.n x_u.c) (.slice x_u.B x_u.m x_u.d) rfl)
  have hb : Below w2.heap.size w2 (w2.alloc (.cells #[.bool x_u.s, .slice x_u.A x_u.n x_u.c, .slice x_u.B x_u.m x_u.d] 28)) := Below.al_ (Below.refl _ _) _
  replace H_l := hide (H_l.out.then_ hb)
  replace H_m := hide (H_m.out.then_ hb)
  replace H_u := hide (H_u.out.then_ hb)
  replace b_m := hide (b_m.out.keep hb)
  replace B := hide (Below.then_ B.out hb)
  clear hb
  go_wp2_with fail
  refine (valid_p H_l.out (by decide) (Nat.le_refl _) (CmH.any (K := 1048577) H_l.out (by decide) (by decide) hsh.out) (by decide) hra.out).mono ?_
  rintro e w3 ⟨rfl, hb⟩
  replace H_l := hide (H_l.out.then_ hb)
  replace H_m := hide (H_m.out.then_ hb)
  replace H_u := hide (H_u.out.then_ hb)
  replace b_m := hide (b_m.out.keep hb)
  replace b_u := hide (b_u.out.keep hb)
  replace B := hide (Below.then_ B.out hb)
  clear hb
  have hvr := rvalid_q H_l.out (Nat.le_refl _)
  rw [hra.out] at hvr
  go_wp2_with fail
  refine (hvr).mono ?_
  rintro e w4 ⟨rfl, hb⟩
  replace H_l := hide (H_l.out.then_ hb)
  replace H_m := hide (H_m.out.then_ hb)
  replace H_u := hide (H_u.out.then_ hb)
  replace b_m := hide (b_m.out.keep hb)
  replace b_u := hide (b_u.out.keep hb)
  replace B := hide (Below.then_ B.out hb)
  clear hb
  clear hvr
  have c_m0 := b_m.out.at0 b_m.out.lt_size (Nat.le_refl _) _ (Below.refl _ _)
  have c_m1 := b_m.out.at1 b_m.out.lt_size (Nat.le_refl _) _ (Below.refl _ _)
  have c_m2 := b_m.out.at2 b_m.out.lt_size (Nat.le_refl _) _ (Below.refl _ _)
  have c_u0 := b_u.out.at0 b_u.out.lt_size (Nat.le_refl _) _ (Below.refl _ _)
  have c_u1 := b_u.out.at1 b_u.out.lt_size (Nat.le_refl _) _ (Below.refl _ _)
  have c_u2 := b_u.out.at2 b_u.out.lt_size (Nat.le_refl _) _ (Below.refl _ _)
  go_wp2_with fail
  refine (sameratio_c (Alike3.of_nq H_m.out H_u.out) (Nat.le_refl _)).mono ?_
  rintro e w5 ⟨rfl, hb⟩
  replace H_l := hide (H_l.out.then_ hb)
  replace H_m := hide (H_m.out.then_ hb)
  replace H_u := hide (H_u.out.then_ hb)
  replace b_m := hide (b_m.out.keep hb)
  replace b_u := hide (b_u.out.keep hb)
  replace B := hide (Below.then_ B.out hb)
  clear hb
  clear c_m0 c_m1 c_m2
  clear c_u0 c_u1 c_u2
  clear b_m
  clear H_m
  clear H_u
  go_wp2_with fail
  refine ((variance_p H_l.out (by decide) (Nat.le_refl _) (CmH.any (K := 1048577) H_l.out (by decide) (by decide) hsh.out) (by decide) hra.out).mono fun _ _ h => RetRE.fix rfl rfl h).mono ?_
  rintro e w6 ⟨x_v, rfl, H_v, hb⟩
  replace H_l := hide (H_l.out.then_ hb)
  replace b_u := hide (b_u.out.keep hb)
  replace B := hide (Below.then_ B.out hb)
  clear hb
  replace H_v := hide H_v
  have hne := hide (show w2.heap.size < w6.heap.size from b_u.out.lt_size)
  have b_v := hide (Box3.new w6 (.bool x_v.s) (.slice x_v.A x_v.n x_v.c) (.slice x_v.B x_v.m x_v.d) rfl)
  have hb : Below w6.heap.size w6 (w6.alloc (.cells #[.bool x_v.s, .slice x_v.A x_v.n x_v.c, .slice x_v.B x_v.m x_v.d] 28)) := Below.al_ (Below.refl _ _) _
  replace H_l := hide (H_l.out.then_ hb)
  replace H_v := hide (H_v.out.then_ hb)
  replace b_u := hide (b_u.out.keep hb)
  replace B := hide (Below.then_ B.out hb)
  clear hb
  go_wp2_with fail
  refine ((rvariance_q H_l.out (Nat.le_refl _) hra.out).mono fun _ _ h => RetRE.fix rfl rfl h).mono ?_
  rintro e w7 ⟨x_t, rfl, H_t, hb⟩
  replace H_l := hide (H_l.out.then_ hb)
  replace H_v := hide (H_v.out.then_ hb)
  replace b_u := hide (b_u.out.keep hb)
  replace b_v := hide (b_v.out.keep hb)
  replace B := hide (Below.then_ B.out hb)
  clear hb
  replace H_t := hide H_t
  have c_u0 := b_u.out.at0 b_u.out.lt_size (Nat.le_refl _) w7 (Below.refl _ _)
  have f_u0 := b_u.out.free0 b_u.out.lt_size (Nat.le_refl _) w7 (Below.refl _ _)
  have c_u1 := b_u.out.at1 b_u.out.lt_size (Nat.le_refl _) w7 (Below.refl _ _)
  have f_u1 := b_u.out.free1 b_u.out.lt_size (Nat.le_refl _) w7 (Below.refl _ _)
  have c_u2 := b_u.out.at2 b_u.out.lt_size (Nat.le_refl _) w7 (Below.refl _ _)
  have f_u2 := b_u.out.free2 b_u.out.lt_size (Nat.le_refl _) w7 (Below.refl _ _)
  have l_u := b_u.out.lt_size
  have b_t := hide (b_u.out.set (.bool x_t.s) (.slice x_t.A x_t.n x_t.c) (.slice x_t.B x_t.m x_t.d))
  have b_v2 := hide (Box3.other (Box3.other (Box3.other b_v.out (show w6.heap.size ≠ w2.heap.size by have := hne.out; omega) (.bool x_t.s) (o := 0)) (show w6.heap.size ≠ w2.heap.size by have := hne.out; omega) (.slice x_t.A x_t.n x_t.c) (o := 1)) (show w6.heap.size ≠ w2.heap.size by have := hne.out; omega) (.slice x_t.B x_t.m x_t.d) (o := 2))
  replace B := hide (((Below.setCell (p := ⟨w2.heap.size, 0, none⟩) B.out hge.out (.bool x_t.s)).setCell (p := ⟨w2.heap.size, 1, none⟩) hge.out (.slice x_t.A x_t.n x_t.c)).setCell (p := ⟨w2.heap.size, 2, none⟩) hge.out (.slice x_t.B x_t.m x_t.d))
  replace H_v := hide (H_v.out.set3 (y := x_u) c_u0 c_u1 c_u2 (.bool x_t.s) (.slice x_t.A x_t.n x_t.c) (.slice x_t.B x_t.m x_t.d))
  replace H_t := hide (H_t.out.set3 (y := x_u) c_u0 c_u1 c_u2 (.bool x_t.s) (.slice x_t.A x_t.n x_t.c) (.slice x_t.B x_t.m x_t.d))
  clear b_v b_u H_l
  have c_v0 := b_v2.out.at0 b_v2.out.lt_size (Nat.le_refl _) _ (Below.refl _ _)
  have c_v1 := b_v2.out.at1 b_v2.out.lt_size (Nat.le_refl _) _ (Below.refl _ _)
  have c_v2 := b_v2.out.at2 b_v2.out.lt_size (Nat.le_refl _) _ (Below.refl _ _)
  have c_t0 := b_t.out.at0 b_t.out.lt_size (Nat.le_refl _) _ (Below.refl _ _)
  have c_t1 := b_t.out.at1 b_t.out.lt_size (Nat.le_refl _) _ (Below.refl _ _)
  have c_t2 := b_t.out.at2 b_t.out.lt_size (Nat.le_refl _) _ (Below.refl _ _)
  clear b_v2 b_t
  go_wp2_with fail
  refine (sameratio_c (Alike3.of_nq H_v.out H_t.out) (Nat.le_refl _)).mono ?_
  rintro e w8 ⟨rfl, hb⟩
  replace H_v := hide (H_v.out.then_ hb)
  replace H_t := hide (H_t.out.then_ hb)
  replace B := hide (Below.then_ B.out hb)
  clear hb
  go_wp2_with fail
  refine (hA _).mono ?_
  rintro e w9 ⟨rfl, hb⟩
  replace H_v := hide (H_v.out.then_ hb)
  replace H_t := hide (H_t.out.then_ hb)
  replace B := hide (Below.then_ B.out hb)
  clear hb
  go_wp2
  go_ret
  exact ⟨rfl, B.out⟩
set_option maxHeartbeats 16000000 in
set_option maxRecDepth 100000 in
theorem moments_false (hA : ∀ w : World, Calls Tryz.prog 14 #[] w (RetB w (.bool true))) {w : World} {A : Option Addr} {n c : Nat} {X : Nat → Rc} {q : Nat → Rat} (hx : LQ (fun _ => false) w w.heap.size 1048576 A n c X q) (hs : n + szs X n ≤ 1048576) (hra : vlB n q = false) : Calls Tryz.prog 3 #[.slice A n c] w (RetB w (.bool true)) := by
  have B := hide (Below.refl w.heap.size w)
  have H_l := hide hx
  have hcap := hx.cap
  have hcb := hx.cbig
  have hsh := hide (show szs X n + 1 ≤ 1048577 by omega)
  replace hra := hide hra
  clear hx hs
  go_enter Tryz.func3, Tryz.ntmps3
  go_wp2_with fail
  refine ((mean_p H_l.out (by decide) (Nat.le_refl _) (CmH.any (K := 1048577) H_l.out (by decide) (by decide) hsh.out) (by decide) hra.out).mono fun _ _ h => RetRE.pr (ok := false) h).mono ?_
  rintro e w1 ⟨x_m, rfl, z_m, hb⟩
  replace H_l := hide (H_l.out.then_ hb)
  replace B := hide (Below.then_ B.out hb)
  clear hb
  replace z_m : x_m = zeroRc := z_m
  subst z_m
  have b_m := hide (Box3.new w1 (.bool zeroRc.s) (.slice zeroRc.A zeroRc.n zeroRc.c) (.slice zeroRc.B zeroRc.m zeroRc.d) rfl)
  have hb : Below w1.heap.size w1 (w1.alloc (.cells #[.bool zeroRc.s, .slice zeroRc.A zeroRc.n zeroRc.c, .slice zeroRc.B zeroRc.m zeroRc.d] 28)) := Below.al_ (Below.refl _ _) _
  replace H_l := hide (H_l.out.then_ hb)
  replace B := hide (Below.then_ B.out hb)
  clear hb
  go_wp2_with fail
  refine ((rmean_q H_l.out (Nat.le_refl _) hra.out).mono fun _ _ h => RetRE.pr (ok := false) h).mono ?_
  rintro e w2 ⟨x_u, rfl, z_u, hb⟩
  replace H_l := hide (H_l.out.then_ hb)
  replace b_m := hide (b_m.out.keep hb)
  replace B := hide (Below.then_ B.out hb)
  clear hb
  replace z_u : x_u = zeroRc := z_u
  subst z_u
  have hge := hide (show w.heap.size ≤ w2.heap.size from B.out.size)
  have b_u := hide (Box3.new w2 (.bool zeroRc.s) (.slice zeroRc.A zeroRc.n zeroRc.c) (.slice zeroRc.B zeroRc.m zeroRc.d) rfl)
  have hb : Below w2.heap.size w2 (w2.alloc (.cells #[.bool zeroRc.s, .slice zeroRc.A zeroRc.n zeroRc.c, .slice zeroRc.B zeroRc.m zeroRc.d] 28)) := Below.al_ (Below.refl _ _) _
  replace H_l := hide (H_l.out.then_ hb)
  replace b_m := hide (b_m.out.keep hb)
  replace B := hide (Below.then_ B.out hb)
  clear hb
  go_wp2_with fail
  refine (valid_p H_l.out (by decide) (Nat.le_refl _) (CmH.any (K := 1048577) H_l.out (by decide) (by decide) hsh.out) (by decide) hra.out).mono ?_
  rintro e w3 ⟨rfl, hb⟩
  replace H_l := hide (H_l.out.then_ hb)
  replace b_m := hide (b_m.out.keep hb)
  replace b_u := hide (b_u.out.keep hb)
  replace B := hide (Below.then_ B.out hb)
  clear hb
  have hvr := rvalid_q H_l.out (Nat.le_refl _)
  rw [hra.out] at hvr
  go_wp2_with fail
  refine (hvr).mono ?_
  rintro e w4 ⟨rfl, hb⟩
  replace H_l := hide (H_l.out.then_ hb)
  replace b_m := hide (b_m.out.keep hb)
  replace b_u := hide (b_u.out.keep hb)
  replace B := hide (Below.then_ B.out hb)
  clear hb
  clear hvr
  have c_m0 := b_m.out.at0 b_m.out.lt_size (Nat.le_refl _) _ (Below.refl _ _)
  have c_m1 := b_m.out.at1 b_m.out.lt_size (Nat.le_refl _) _ (Below.refl _ _)
  have c_m2 := b_m.out.at2 b_m.out.lt_size (Nat.le_refl _) _ (Below.refl _ _)
  have c_u0 := b_u.out.at0 b_u.out.lt_size (Nat.le_refl _) _ (Below.refl _ _)
  have c_u1 := b_u.out.at1 b_u.out.lt_size (Nat.le_refl _) _ (Below.refl _ _)
  have c_u2 := b_u.out.at2 b_u.out.lt_size (Nat.le_refl _) _ (Below.refl _ _)
  go_wp2_with fail
  refine (sameratio_c (Alike3.zero _ _) (Nat.le_refl _)).mono ?_
  rintro e w5 ⟨rfl, hb⟩
  replace H_l := hide (H_l.out.then_ hb)
  replace b_m := hide (b_m.out.keep hb)
  replace b_u := hide (b_u.out.keep hb)
  replace B := hide (Below.then_ B.out hb)
  clear hb
  clear c_m0 c_m1 c_m2
  clear c_u0 c_u1 c_u2
  clear b_m
  go_wp2_with fail
  refine ((variance_p H_l.out (by decide) (Nat.le_refl _) (CmH.any (K := 1048577) H_l.out (by decide) (by decide) hsh.out) (by decide) hra.out).mono fun _ _ h => RetRE.pr (ok := false) h).mono ?_
  rintro e w6 ⟨x_v, rfl, z_v, hb⟩
  replace H_l := hide (H_l.out.then_ hb)
  replace b_u := hide (b_u.out.keep hb)
  replace B := hide (Below.then_ B.out hb)
  clear hb
  replace z_v : x_v = zeroRc := z_v
  subst z_v
  have hne := hide (show w2.heap.size < w6.heap.size from b_u.out.lt_size)
  have b_v := hide (Box3.new w6 (.bool zeroRc.s) (.slice zeroRc.A zeroRc.n zeroRc.c) (.slice zeroRc.B zeroRc.m zeroRc.d) rfl)
  have hb : Below w6.heap.size w6 (w6.alloc (.cells #[.bool zeroRc.s, .slice zeroRc.A zeroRc.n zeroRc.c, .slice zeroRc.B zeroRc.m zeroRc.d] 28)) := Below.al_ (Below.refl _ _) _
  replace H_l := hide (H_l.out.then_ hb)
  replace b_u := hide (b_u.out.keep hb)
  replace B := hide (Below.then_ B.out hb)
  clear hb
  go_wp2_with fail
  refine ((rvariance_q H_l.out (Nat.le_refl _) hra.out).mono fun _ _ h => RetRE.pr (ok := false) h).mono ?_
  rintro e w7 ⟨x_t, rfl, z_t, hb⟩
  replace H_l := hide (H_l.out.then_ hb)
  replace b_u := hide (b_u.out.keep hb)
  replace b_v := hide (b_v.out.keep hb)
  replace B := hide (Below.then_ B.out hb)
  clear hb
  replace z_t : x_t = zeroRc := z_t
  subst z_t
  have c_u0 := b_u.out.at0 b_u.out.lt_size (Nat.le_refl _) w7 (Below.refl _ _)
  have f_u0 := b_u.out.free0 b_u.out.lt_size (Nat.le_refl _) w7 (Below.refl _ _)
  have c_u1 := b_u.out.at1 b_u.out.lt_size (Nat.le_refl _) w7 (Below.refl _ _)
  have f_u1 := b_u.out.free1 b_u.out.lt_size (Nat.le_refl _) w7 (Below.refl _ _)
  have c_u2 := b_u.out.at2 b_u.out.lt_size (Nat.le_refl _) w7 (Below.refl _ _)
  have f_u2 := b_u.out.free2 b_u.out.lt_size (Nat.le_refl _) w7 (Below.refl _ _)
  have l_u := b_u.out.lt_size
  have b_t := hide (b_u.out.set (.bool zeroRc.s) (.slice zeroRc.A zeroRc.n zeroRc.c) (.slice zeroRc.B zeroRc.m zeroRc.d))
  have b_v2 := hide (Box3.other (Box3.other (Box3.other b_v.out (show w6.heap.size ≠ w2.heap.size by have := hne.out; omega) (.bool zeroRc.s) (o := 0)) (show w6.heap.size ≠ w2.heap.size by have := hne.out; omega) (.slice zeroRc.A zeroRc.n zeroRc.c) (o := 1)) (show w6.heap.size ≠ w2.heap.size by have := hne.out; omega) (.slice zeroRc.B zeroRc.m zeroRc.d) (o := 2))
  replace B := hide (((Below.setCell (p := ⟨w2.heap.size, 0, none⟩) B.out hge.out (.bool zeroRc.s)).setCell (p := ⟨w2.heap.size, 1, none⟩) hge.out (.slice zeroRc.A zeroRc.n zeroRc.c)).setCell (p := ⟨w2.heap.size, 2, none⟩) hge.out (.slice zeroRc.B zeroRc.m zeroRc.d))
  clear b_v b_u H_l
  have c_v0 := b_v2.out.at0 b_v2.out.lt_size (Nat.le_refl _) _ (Below.refl _ _)
  have c_v1 := b_v2.out.at1 b_v2.out.lt_size (Nat.le_refl _) _ (Below.refl _ _)
  have c_v2 := b_v2.out.at2 b_v2.out.lt_size (Nat.le_refl _) _ (Below.refl _ _)
  have c_t0 := b_t.out.at0 b_t.out.lt_size (Nat.le_refl _) _ (Below.refl _ _)
  have c_t1 := b_t.out.at1 b_t.out.lt_size (Nat.le_refl _) _ (Below.refl _ _)
  have c_t2 := b_t.out.at2 b_t.out.lt_size (Nat.le_refl _) _ (Below.refl _ _)
  clear b_v2 b_t
  go_wp2_with fail
  refine (sameratio_c (Alike3.zero _ _) (Nat.le_refl _)).mono ?_
  rintro e w8 ⟨rfl, hb⟩
  replace B := hide (Below.then_ B.out hb)
  clear hb
  go_wp2_with fail
  refine (hA _).mono ?_
  rintro e w9 ⟨rfl, hb⟩
  replace B := hide (Below.then_ B.out hb)
  clear hb
  go_wp2
  go_ret
  exact ⟨rfl, B.out⟩
theorem moments_walk (hA : ∀ w : World, Calls Tryz.prog 14 #[] w (RetB w (.bool true))) {w : World} {A : Option Addr} {n c : Nat} {X : Nat → Rc} {q : Nat → Rat} (hx : LQ (fun _ => false) w w.heap.size 1048576 A n c X q) (hs : n + szs X n ≤ 1048576) : Calls Tryz.prog 3 #[.slice A n c] w (RetB w (.bool true)) := by
  cases h : vlB n q with
  | true => exact moments_true hA hx hs h
  | false => exact moments_false hA hx hs h
end Go.Proofs.YtonpeagedggakaaGreat
