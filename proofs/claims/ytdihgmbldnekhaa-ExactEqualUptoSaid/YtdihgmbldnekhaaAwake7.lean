/-
  awake of the laws of exact.
-/
import Derived.Test.YtdihgmbldnekhaaAwkB
namespace Go.Proofs.Ytdihgmbldnekhaa
open Go.RowKit

set_option maxHeartbeats 16000000 in
set_option maxRecDepth 100000 in
theorem awake_x {w : World} : Calls Try.prog 11 #[] w (RetB w (.bool true)) := by
  have B := hide (Below.refl w.heap.size w)
  go_enter Try.func11, Try.ntmps11
  go_wp2_with fail
  refine (part_l (a := 1) (b := 3) (q := (1/3 : Rat)) rfl rfl (by decide) (by decide) (by decide +kernel)).mono ?_
  rintro e w1 ⟨x_a0, rfl, H_a0, hb⟩
  replace B := hide (Below.then_ B.out hb)
  clear hb
  replace H_a0 := hide H_a0
  go_wp2_with fail
  refine (binom_s (n := 2) (N := 3) (l := [4/9, 4/9, 1/9]) H_a0.out (Nat.le_refl _) rfl (by decide) (by decide +kernel) rfl (fun i hi => by rcases (by omega : i = 0 ∨ i = 1 ∨ i = 2) with rfl | rfl | rfl <;> decide +kernel) (fun i hi => by rcases (by omega : i = 0 ∨ i = 1 ∨ i = 2) with rfl | rfl | rfl <;> decide +kernel)).mono ?_
  rintro e w2 ⟨A_a, c_a, Z_a, rfl, H_a, hb⟩
  replace H_a0 := hide (H_a0.out.then_ hb)
  replace B := hide (Below.then_ B.out hb)
  clear hb
  replace H_a := hide H_a
  clear H_a0
  go_wp2_with fail
  refine (hyper_s (t := 3) (m := 2) (d := 2) (N := 3) (l := [0, 2/3, 1/3]) rfl rfl rfl (by decide) (by decide) (by decide) rfl (fun i hi => by rcases (by omega : i = 0 ∨ i = 1 ∨ i = 2) with rfl | rfl | rfl <;> decide +kernel) (fun i hi => by rcases (by omega : i = 0 ∨ i = 1 ∨ i = 2) with rfl | rfl | rfl <;> decide +kernel)).mono ?_
  rintro e w3 ⟨A_b, c_b, Z_b, rfl, H_b, hb⟩
  replace H_a := hide (H_a.out.then_ hb)
  replace B := hide (Below.then_ B.out hb)
  clear hb
  replace H_b := hide H_b
  go_wp2_with fail
  refine (part_l (a := 1) (b := 2) (q := (1/2 : Rat)) rfl rfl (by decide) (by decide) (by decide +kernel)).mono ?_
  rintro e w4 ⟨x_c0, rfl, H_c0, hb⟩
  replace H_a := hide (H_a.out.then_ hb)
  replace H_b := hide (H_b.out.then_ hb)
  replace B := hide (Below.then_ B.out hb)
  clear hb
  replace H_c0 := hide H_c0
  go_wp2_with fail
  refine (part_l (a := 1) (b := 3) (q := (1/3 : Rat)) rfl rfl (by decide) (by decide) (by decide +kernel)).mono ?_
  rintro e w5 ⟨x_c1, rfl, H_c1, hb⟩
  replace H_a := hide (H_a.out.then_ hb)
  replace H_b := hide (H_b.out.then_ hb)
  replace H_c0 := hide (H_c0.out.then_ hb)
  replace B := hide (Below.then_ B.out hb)
  clear hb
  replace H_c1 := hide H_c1
  go_wp2_with fail
  refine (trials_s (n := 2) (N := 3) (l := [1/3, 1/2, 1/6]) (lq_two H_c0.out H_c1.out) (Nat.le_refl _) (by decide) (fun i hi => by rcases (by omega : i = 0 ∨ i = 1) with rfl | rfl <;> decide +kernel) rfl (fun i hi => by rcases (by omega : i = 0 ∨ i = 1 ∨ i = 2) with rfl | rfl | rfl <;> decide +kernel) (fun i hi => by rcases (by omega : i = 0 ∨ i = 1 ∨ i = 2) with rfl | rfl | rfl <;> decide +kernel)).mono ?_
  rintro e w6 ⟨A_c, c_c, Z_c, rfl, H_c, hb⟩
  replace hb := Below.al_then hb
  replace H_a := hide (H_a.out.then_ hb)
  replace H_b := hide (H_b.out.then_ hb)
  replace H_c0 := hide (H_c0.out.then_ hb)
  replace H_c1 := hide (H_c1.out.then_ hb)
  replace B := hide (Below.then_ B.out hb)
  clear hb
  replace H_c := hide H_c
  clear H_c0
  clear H_c1
  go_wp2_with fail
  refine (is_true (H_a.out.then_ (Below.al_ (Below.refl _ _) _)) (by decide) (ls_three _ ⟨#[52, 47, 57]⟩ ⟨#[52, 47, 57]⟩ ⟨#[49, 47, 57]⟩) (Nat.le_refl _) ⟨by decide, by decide⟩ (fun i hi => by rcases (by omega : i = 0 ∨ i = 1 ∨ i = 2) with rfl | rfl | rfl <;> decide +kernel)).mono ?_
  rintro e w7 ⟨rfl, hb⟩
  replace hb := Below.al_then hb
  replace H_a := hide (H_a.out.then_ hb)
  replace H_b := hide (H_b.out.then_ hb)
  replace H_c := hide (H_c.out.then_ hb)
  replace B := hide (Below.then_ B.out hb)
  clear hb
  clear H_a
  go_wp2_with fail
  refine (is_true (H_b.out.then_ (Below.al_ (Below.refl _ _) _)) (by decide) (ls_three _ ⟨#[48]⟩ ⟨#[50, 47, 51]⟩ ⟨#[49, 47, 51]⟩) (Nat.le_refl _) ⟨by decide, by decide⟩ (fun i hi => by rcases (by omega : i = 0 ∨ i = 1 ∨ i = 2) with rfl | rfl | rfl <;> decide +kernel)).mono ?_
  rintro e w8 ⟨rfl, hb⟩
  replace hb := Below.al_then hb
  replace H_b := hide (H_b.out.then_ hb)
  replace H_c := hide (H_c.out.then_ hb)
  replace B := hide (Below.then_ B.out hb)
  clear hb
  clear H_b
  go_wp2_with fail
  refine (is_true (H_c.out.then_ (Below.al_ (Below.refl _ _) _)) (by decide) (ls_three _ ⟨#[49, 47, 51]⟩ ⟨#[49, 47, 50]⟩ ⟨#[49, 47, 54]⟩) (Nat.le_refl _) ⟨by decide, by decide⟩ (fun i hi => by rcases (by omega : i = 0 ∨ i = 1 ∨ i = 2) with rfl | rfl | rfl <;> decide +kernel)).mono ?_
  rintro e w9 ⟨rfl, hb⟩
  replace hb := Below.al_then hb
  replace H_c := hide (H_c.out.then_ hb)
  replace B := hide (Below.then_ B.out hb)
  clear hb
  go_wp2_with fail
  refine (part_l (a := 1) (b := 2) (q := (1/2 : Rat)) rfl rfl (by decide) (by decide) (by decide +kernel)).mono ?_
  rintro e w10 ⟨x_d0, rfl, H_d0, hb⟩
  replace H_c := hide (H_c.out.then_ hb)
  replace B := hide (Below.then_ B.out hb)
  clear hb
  replace H_d0 := hide H_d0
  go_wp2_with fail
  refine (part_l (a := 2) (b := 4) (q := (1/2 : Rat)) rfl rfl (by decide) (by decide) (by decide +kernel)).mono ?_
  rintro e w11 ⟨x_d1, rfl, H_d1, hb⟩
  replace H_c := hide (H_c.out.then_ hb)
  replace H_d0 := hide (H_d0.out.then_ hb)
  replace B := hide (Below.then_ B.out hb)
  clear hb
  replace H_d1 := hide H_d1
  go_wp2_with fail
  have H_dl := hide (lq_two H_d0.out H_d1.out)
  refine (part_l (a := 1) (b := 2) (q := (1/2 : Rat)) rfl rfl (by decide) (by decide) (by decide +kernel)).mono ?_
  rintro e w12 ⟨x_d2, rfl, H_d2, hb⟩
  replace H_dl := hide (H_dl.out.then_ hb)
  replace hb := Below.al_then hb
  replace H_c := hide (H_c.out.then_ hb)
  replace H_d0 := hide (H_d0.out.then_ hb)
  replace H_d1 := hide (H_d1.out.then_ hb)
  replace B := hide (Below.then_ B.out hb)
  clear hb
  replace H_d2 := hide H_d2
  clear H_d0
  clear H_d1
  go_wp2_with fail
  refine (part_l (a := 1) (b := 2) (q := (1/2 : Rat)) rfl rfl (by decide) (by decide) (by decide +kernel)).mono ?_
  rintro e w13 ⟨x_d3, rfl, H_d3, hb⟩
  replace H_c := hide (H_c.out.then_ hb)
  replace H_dl := hide (H_dl.out.then_ hb)
  replace H_d2 := hide (H_d2.out.then_ hb)
  replace B := hide (Below.then_ B.out hb)
  clear hb
  replace H_d3 := hide H_d3
  go_wp2_with fail
  refine (convolve_s (N := 3) (l := [1/4, 1/2, 1/4]) (H_dl.out.then_ (Below.al_ (Below.refl _ _) _)) (lq_two H_d2.out H_d3.out) (Nat.le_refl _) (by decide) (by decide) ⟨by decide, fun i hi => by rcases (by omega : i = 0 ∨ i = 1) with rfl | rfl <;> decide +kernel, by decide +kernel⟩ ⟨by decide, fun i hi => by rcases (by omega : i = 0 ∨ i = 1) with rfl | rfl <;> decide +kernel, by decide +kernel⟩ rfl (fun i hi => by rcases (by omega : i = 0 ∨ i = 1 ∨ i = 2) with rfl | rfl | rfl <;> decide +kernel) (fun i hi => by rcases (by omega : i = 0 ∨ i = 1 ∨ i = 2) with rfl | rfl | rfl <;> decide +kernel)).mono ?_
  rintro e w14 ⟨A_d, c_d, Z_d, rfl, H_d, hb⟩
  replace hb := Below.al_then hb
  replace H_c := hide (H_c.out.then_ hb)
  replace H_dl := hide (H_dl.out.then_ hb)
  replace H_d2 := hide (H_d2.out.then_ hb)
  replace H_d3 := hide (H_d3.out.then_ hb)
  replace B := hide (Below.then_ B.out hb)
  clear hb
  replace H_d := hide H_d
  clear H_dl
  clear H_d2
  clear H_d3
  go_wp2_with fail
  refine (is_true (H_d.out.then_ (Below.al_ (Below.refl _ _) _)) (by decide) (ls_three _ ⟨#[49, 47, 52]⟩ ⟨#[49, 47, 50]⟩ ⟨#[49, 47, 52]⟩) (Nat.le_refl _) ⟨by decide, by decide⟩ (fun i hi => by rcases (by omega : i = 0 ∨ i = 1 ∨ i = 2) with rfl | rfl | rfl <;> decide +kernel)).mono ?_
  rintro e w15 ⟨rfl, hb⟩
  replace hb := Below.al_then hb
  replace H_c := hide (H_c.out.then_ hb)
  replace H_d := hide (H_d.out.then_ hb)
  replace B := hide (Below.then_ B.out hb)
  clear hb
  clear H_d
  go_wp2_with fail
  refine (valid_s H_c.out (Nat.le_refl _) (by decide) (vl_yes ⟨by decide, fun i hi => by rcases (by omega : i = 0 ∨ i = 1 ∨ i = 2) with rfl | rfl | rfl <;> decide +kernel, by decide +kernel⟩)).mono ?_
  rintro e w16 ⟨rfl, hb⟩
  replace H_c := hide (H_c.out.then_ hb)
  replace B := hide (Below.then_ B.out hb)
  clear hb
  go_wp2_with fail
  refine (part_l (a := 1) (b := 2) (q := (1/2 : Rat)) rfl rfl (by decide) (by decide) (by decide +kernel)).mono ?_
  rintro e w17 ⟨x_e0, rfl, H_e0, hb⟩
  replace H_c := hide (H_c.out.then_ hb)
  replace B := hide (Below.then_ B.out hb)
  clear hb
  replace H_e0 := hide H_e0
  go_wp2_with fail
  refine (part_l (a := 1) (b := 3) (q := (1/3 : Rat)) rfl rfl (by decide) (by decide) (by decide +kernel)).mono ?_
  rintro e w18 ⟨x_e1, rfl, H_e1, hb⟩
  replace H_c := hide (H_c.out.then_ hb)
  replace H_e0 := hide (H_e0.out.then_ hb)
  replace B := hide (Below.then_ B.out hb)
  clear hb
  replace H_e1 := hide H_e1
  go_wp2_with fail
  refine (valid_s (lq_two H_e0.out H_e1.out) (Nat.le_refl _) (by decide) (vl_no (fun h => absurd h.2.2 (by decide +kernel)))).mono ?_
  rintro e w19 ⟨rfl, hb⟩
  replace hb := Below.al_then hb
  replace H_c := hide (H_c.out.then_ hb)
  replace H_e0 := hide (H_e0.out.then_ hb)
  replace H_e1 := hide (H_e1.out.then_ hb)
  replace B := hide (Below.then_ B.out hb)
  clear hb
  clear H_e0
  clear H_e1
  go_wp2_with fail
  refine (mean_s H_c.out (Nat.le_refl _) (by decide) ⟨by decide, fun i hi => by rcases (by omega : i = 0 ∨ i = 1 ∨ i = 2) with rfl | rfl | rfl <;> decide +kernel, by decide +kernel⟩ (r := 5/6) (by decide +kernel) (by decide +kernel)).mono ?_
  rintro e w20 ⟨x_m, rfl, H_m, hb⟩
  replace H_c := hide (H_c.out.then_ hb)
  replace B := hide (Below.then_ B.out hb)
  clear hb
  replace H_m := hide H_m
  have b_m := hide (Box3.new w20 (.bool x_m.s) (.slice x_m.A x_m.n x_m.c) (.slice x_m.B x_m.m x_m.d) rfl)
  have hb : Below w20.heap.size w20 (w20.alloc (.cells #[.bool x_m.s, .slice x_m.A x_m.n x_m.c, .slice x_m.B x_m.m x_m.d] 27)) := Below.al_ (Below.refl _ _) _
  replace H_c := hide (H_c.out.then_ hb)
  replace H_m := hide (H_m.out.then_ hb)
  replace B := hide (Below.then_ B.out hb)
  clear hb
  go_wp2_with fail
  refine (variance_s H_c.out (Nat.le_refl _) (by decide) ⟨by decide, fun i hi => by rcases (by omega : i = 0 ∨ i = 1 ∨ i = 2) with rfl | rfl | rfl <;> decide +kernel, by decide +kernel⟩ (r := 17/36) (by decide +kernel) (by decide +kernel)).mono ?_
  rintro e w21 ⟨x_v, rfl, H_v, hb⟩
  replace H_c := hide (H_c.out.then_ hb)
  replace H_m := hide (H_m.out.then_ hb)
  replace b_m := hide (b_m.out.keep hb)
  replace B := hide (Below.then_ B.out hb)
  clear hb
  replace H_v := hide H_v
  clear H_c
  have b_v := hide (Box3.new w21 (.bool x_v.s) (.slice x_v.A x_v.n x_v.c) (.slice x_v.B x_v.m x_v.d) rfl)
  have hb : Below w21.heap.size w21 (w21.alloc (.cells #[.bool x_v.s, .slice x_v.A x_v.n x_v.c, .slice x_v.B x_v.m x_v.d] 27)) := Below.al_ (Below.refl _ _) _
  replace H_m := hide (H_m.out.then_ hb)
  replace H_v := hide (H_v.out.then_ hb)
  replace b_m := hide (b_m.out.keep hb)
  replace B := hide (Below.then_ B.out hb)
  clear hb
  have c_m0 := b_m.out.at0 b_m.out.lt_size (Nat.le_refl _) _ (Below.refl _ _)
  have c_m1 := b_m.out.at1 b_m.out.lt_size (Nat.le_refl _) _ (Below.refl _ _)
  have c_m2 := b_m.out.at2 b_m.out.lt_size (Nat.le_refl _) _ (Below.refl _ _)
  have c_v0 := b_v.out.at0 b_v.out.lt_size (Nat.le_refl _) _ (Below.refl _ _)
  have c_v1 := b_v.out.at1 b_v.out.lt_size (Nat.le_refl _) _ (Below.refl _ _)
  have c_v2 := b_v.out.at2 b_v.out.lt_size (Nat.le_refl _) _ (Below.refl _ _)
  go_wp2_with fail
  obtain ⟨V, hV⟩ : ∃ V, V = (w21.alloc (.cells #[.bool x_v.s, .slice x_v.A x_v.n x_v.c, .slice x_v.B x_v.m x_v.d] 27)) := ⟨_, rfl⟩
  have hs1 : w21.heap.size + 1 = V.heap.size := by rw [hV]; simp
  rw [← hV] at H_m H_v B ⊢
  rw [hs1]
  clear hV hs1
  have HL := lq_two H_m.out.rq H_v.out.rq
  obtain ⟨V2, hV2⟩ : ∃ V2, V2 = V.alloc (.cells #[.bool x_m.s, .slice x_m.A x_m.n x_m.c, .slice x_m.B x_m.m x_m.d, .bool x_v.s, .slice x_v.A x_v.n x_v.c, .slice x_v.B x_v.m x_v.d] 27) := ⟨_, rfl⟩
  have hs2 : V.heap.size + 1 = V2.heap.size := by rw [hV2]; simp
  have hb2 : Below V.heap.size V V2 := by rw [hV2]; exact Below.al_ (Below.refl _ _) _
  rw [← hV2] at HL ⊢
  rw [hs2]
  clear hV2 hs2
  refine (is_true (HL.then_ (Below.al_ (Below.refl _ _) _)) (by decide) (ls_two V2 ⟨#[53, 47, 54]⟩ ⟨#[49, 55, 47, 51, 54]⟩) (Nat.le_refl _) ⟨by decide, by decide⟩ (fun i hi => by rcases (by omega : i = 0 ∨ i = 1) with rfl | rfl <;> decide +kernel)).mono ?_
  rintro e w22 ⟨rfl, hb⟩
  replace hb := Below.then_ hb2 (Below.al_then hb)
  clear hb2 HL
  replace H_m := hide (H_m.out.then_ hb)
  replace H_v := hide (H_v.out.then_ hb)
  replace B := hide (Below.then_ B.out hb)
  clear hb
  clear c_m0 c_m1 c_m2 b_m
  clear c_v0 c_v1 c_v2 b_v
  clear H_m
  clear H_v
  go_wp2_with fail
  refine (part_l (a := 1) (b := 2) (q := (1/2 : Rat)) rfl rfl (by decide) (by decide) (by decide +kernel)).mono ?_
  rintro e w23 ⟨x_h0, rfl, H_h0, hb⟩
  replace B := hide (Below.then_ B.out hb)
  clear hb
  replace H_h0 := hide H_h0
  go_wp2_with fail
  refine (binom_s (n := 3) (N := 4) (l := [1/8, 3/8, 3/8, 1/8]) H_h0.out (Nat.le_refl _) rfl (by decide) (by decide +kernel) rfl (fun i hi => by rcases (by omega : i = 0 ∨ i = 1 ∨ i = 2 ∨ i = 3) with rfl | rfl | rfl | rfl <;> decide +kernel) (fun i hi => by rcases (by omega : i = 0 ∨ i = 1 ∨ i = 2 ∨ i = 3) with rfl | rfl | rfl | rfl <;> decide +kernel)).mono ?_
  rintro e w24 ⟨A_h, c_h, Z_h, rfl, H_h, hb⟩
  replace H_h0 := hide (H_h0.out.then_ hb)
  replace B := hide (Below.then_ B.out hb)
  clear hb
  replace H_h := hide H_h
  clear H_h0
  go_wp2_with fail
  refine (upper_s (k := 2) rfl (by decide) H_h.out (Nat.le_refl _) (by decide) ⟨by decide, fun i hi => by rcases (by omega : i = 0 ∨ i = 1 ∨ i = 2 ∨ i = 3) with rfl | rfl | rfl | rfl <;> decide +kernel, by decide +kernel⟩ (r := 1/2) (by decide +kernel) (by decide +kernel)).mono ?_
  rintro e w25 ⟨x_x, rfl, H_x, hb⟩
  replace H_h := hide (H_h.out.then_ hb)
  replace B := hide (Below.then_ B.out hb)
  clear hb
  replace H_x := hide H_x
  have b_x := hide (Box3.new w25 (.bool x_x.s) (.slice x_x.A x_x.n x_x.c) (.slice x_x.B x_x.m x_x.d) rfl)
  have hb : Below w25.heap.size w25 (w25.alloc (.cells #[.bool x_x.s, .slice x_x.A x_x.n x_x.c, .slice x_x.B x_x.m x_x.d] 27)) := Below.al_ (Below.refl _ _) _
  replace H_h := hide (H_h.out.then_ hb)
  replace H_x := hide (H_x.out.then_ hb)
  replace B := hide (Below.then_ B.out hb)
  clear hb
  go_wp2_with fail
  refine (lower_s (k := 0) rfl (by decide) H_h.out (Nat.le_refl _) (by decide) ⟨by decide, fun i hi => by rcases (by omega : i = 0 ∨ i = 1 ∨ i = 2 ∨ i = 3) with rfl | rfl | rfl | rfl <;> decide +kernel, by decide +kernel⟩ (r := 1/8) (by decide +kernel) (by decide +kernel)).mono ?_
  rintro e w26 ⟨x_y, rfl, H_y, hb⟩
  replace H_h := hide (H_h.out.then_ hb)
  replace H_x := hide (H_x.out.then_ hb)
  replace b_x := hide (b_x.out.keep hb)
  replace B := hide (Below.then_ B.out hb)
  clear hb
  replace H_y := hide H_y
  have b_y := hide (Box3.new w26 (.bool x_y.s) (.slice x_y.A x_y.n x_y.c) (.slice x_y.B x_y.m x_y.d) rfl)
  have hb : Below w26.heap.size w26 (w26.alloc (.cells #[.bool x_y.s, .slice x_y.A x_y.n x_y.c, .slice x_y.B x_y.m x_y.d] 27)) := Below.al_ (Below.refl _ _) _
  replace H_h := hide (H_h.out.then_ hb)
  replace H_x := hide (H_x.out.then_ hb)
  replace H_y := hide (H_y.out.then_ hb)
  replace b_x := hide (b_x.out.keep hb)
  replace B := hide (Below.then_ B.out hb)
  clear hb
  go_wp2_with fail
  refine (both_s (k := 0) rfl (by decide) H_h.out (Nat.le_refl _) (by decide) ⟨by decide, fun i hi => by rcases (by omega : i = 0 ∨ i = 1 ∨ i = 2 ∨ i = 3) with rfl | rfl | rfl | rfl <;> decide +kernel, by decide +kernel⟩ (r := 1/4) (by decide +kernel) (by decide +kernel)).mono ?_
  rintro e w27 ⟨x_z, rfl, H_z, hb⟩
  replace H_h := hide (H_h.out.then_ hb)
  replace H_x := hide (H_x.out.then_ hb)
  replace H_y := hide (H_y.out.then_ hb)
  replace b_x := hide (b_x.out.keep hb)
  replace b_y := hide (b_y.out.keep hb)
  replace B := hide (Below.then_ B.out hb)
  clear hb
  replace H_z := hide H_z
  clear H_h
  have b_z := hide (Box3.new w27 (.bool x_z.s) (.slice x_z.A x_z.n x_z.c) (.slice x_z.B x_z.m x_z.d) rfl)
  have hb : Below w27.heap.size w27 (w27.alloc (.cells #[.bool x_z.s, .slice x_z.A x_z.n x_z.c, .slice x_z.B x_z.m x_z.d] 27)) := Below.al_ (Below.refl _ _) _
  replace H_x := hide (H_x.out.then_ hb)
  replace H_y := hide (H_y.out.then_ hb)
  replace H_z := hide (H_z.out.then_ hb)
  replace b_x := hide (b_x.out.keep hb)
  replace b_y := hide (b_y.out.keep hb)
  replace B := hide (Below.then_ B.out hb)
  clear hb
  have c_x0 := b_x.out.at0 b_x.out.lt_size (Nat.le_refl _) _ (Below.refl _ _)
  have c_x1 := b_x.out.at1 b_x.out.lt_size (Nat.le_refl _) _ (Below.refl _ _)
  have c_x2 := b_x.out.at2 b_x.out.lt_size (Nat.le_refl _) _ (Below.refl _ _)
  have c_y0 := b_y.out.at0 b_y.out.lt_size (Nat.le_refl _) _ (Below.refl _ _)
  have c_y1 := b_y.out.at1 b_y.out.lt_size (Nat.le_refl _) _ (Below.refl _ _)
  have c_y2 := b_y.out.at2 b_y.out.lt_size (Nat.le_refl _) _ (Below.refl _ _)
  have c_z0 := b_z.out.at0 b_z.out.lt_size (Nat.le_refl _) _ (Below.refl _ _)
  have c_z1 := b_z.out.at1 b_z.out.lt_size (Nat.le_refl _) _ (Below.refl _ _)
  have c_z2 := b_z.out.at2 b_z.out.lt_size (Nat.le_refl _) _ (Below.refl _ _)
  go_wp2_with fail
  obtain ⟨V, hV⟩ : ∃ V, V = (w27.alloc (.cells #[.bool x_z.s, .slice x_z.A x_z.n x_z.c, .slice x_z.B x_z.m x_z.d] 27)) := ⟨_, rfl⟩
  have hs1 : w27.heap.size + 1 = V.heap.size := by rw [hV]; simp
  rw [← hV] at H_x H_y H_z B ⊢
  rw [hs1]
  clear hV hs1
  have HL := lq_three H_x.out.rq H_y.out.rq H_z.out.rq
  obtain ⟨V2, hV2⟩ : ∃ V2, V2 = V.alloc (.cells #[.bool x_x.s, .slice x_x.A x_x.n x_x.c, .slice x_x.B x_x.m x_x.d, .bool x_y.s, .slice x_y.A x_y.n x_y.c, .slice x_y.B x_y.m x_y.d, .bool x_z.s, .slice x_z.A x_z.n x_z.c, .slice x_z.B x_z.m x_z.d] 27) := ⟨_, rfl⟩
  have hs2 : V.heap.size + 1 = V2.heap.size := by rw [hV2]; simp
  have hb2 : Below V.heap.size V V2 := by rw [hV2]; exact Below.al_ (Below.refl _ _) _
  rw [← hV2] at HL ⊢
  rw [hs2]
  clear hV2 hs2
  refine (is_true (HL.then_ (Below.al_ (Below.refl _ _) _)) (by decide) (ls_three V2 ⟨#[49, 47, 50]⟩ ⟨#[49, 47, 56]⟩ ⟨#[49, 47, 52]⟩) (Nat.le_refl _) ⟨by decide, by decide⟩ (fun i hi => by rcases (by omega : i = 0 ∨ i = 1 ∨ i = 2) with rfl | rfl | rfl <;> decide +kernel)).mono ?_
  rintro e w28 ⟨rfl, hb⟩
  replace hb := Below.then_ hb2 (Below.al_then hb)
  clear hb2 HL
  replace H_x := hide (H_x.out.then_ hb)
  replace H_y := hide (H_y.out.then_ hb)
  replace H_z := hide (H_z.out.then_ hb)
  replace B := hide (Below.then_ B.out hb)
  clear hb
  clear c_x0 c_x1 c_x2 b_x
  clear c_y0 c_y1 c_y2 b_y
  clear c_z0 c_z1 c_z2 b_z
  clear H_x
  clear H_y
  clear H_z
  go_wp2_with fail
  refine (part_l (a := 2) (b := 1) (q := (2 : Rat)) rfl rfl (by decide) (by decide) (by decide +kernel)).mono ?_
  rintro e w29 ⟨x_p0, rfl, H_p0, hb⟩
  replace B := hide (Below.then_ B.out hb)
  clear hb
  replace H_p0 := hide H_p0
  go_wp2_with fail
  refine (binom_p (H_p0.out.le (by decide)) (Nat.le_refl _) (biK_bad (n := 121) (q := 2) (by decide +kernel))).mono ?_
  rintro e w30 ⟨A_p, c_p, Z_p, y_p, rfl, _, _, hb⟩
  replace H_p0 := hide (H_p0.out.then_ hb)
  replace B := hide (Below.then_ B.out hb)
  clear hb
  clear H_p0
  go_wp2_with fail
  refine (part_l (a := 1) (b := 2) (q := (1/2 : Rat)) rfl rfl (by decide) (by decide) (by decide +kernel)).mono ?_
  rintro e w31 ⟨x_q0, rfl, H_q0, hb⟩
  replace B := hide (Below.then_ B.out hb)
  clear hb
  replace H_q0 := hide H_q0
  go_wp2_with fail
  refine (binom_p (H_q0.out.le (by decide)) (Nat.le_refl _) (biK_far (n := 121) (q := 1/2) (by decide +kernel) (by decide))).mono ?_
  rintro e w32 ⟨A_q, c_q, Z_q, y_q, rfl, _, _, hb⟩
  replace H_q0 := hide (H_q0.out.then_ hb)
  replace B := hide (Below.then_ B.out hb)
  clear hb
  clear H_q0
  go_wp2
  go_ret
  exact ⟨rfl, B.out⟩
end Go.Proofs.Ytdihgmbldnekhaa
