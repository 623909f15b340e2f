/-
  CombinRank.
-/
import Derived.Test.YtdakfpapigieiaaNumb6
namespace Go.Proofs.Ytdakfpapigieiaa
open Go.RowKit

theorem sub_of_ris : ∀ {N f : Nat} {ys : List Nat}, Ris N f ys → ∀ j, j < ys.length → (f : Int) ≤ li (zsI ys) j ∧ li (zsI ys) j < (N : Int) ∧ (0 < j → li (zsI ys) (j - 1) < li (zsI ys) j)
  | _, _, [], _, j, h => by simp at h
  | N, f, y :: t, ⟨h1, h2, h3⟩, 0, _ => by
    rw [zs_cons, li_cons_zero]
    exact ⟨by omega, by omega, fun h => by omega⟩
  | N, f, y :: t, ⟨h1, h2, h3⟩, j + 1, hj => by
    have ih := sub_of_ris h3 j (by simpa using hj)
    rw [zs_cons, li_cons_succ, Nat.add_sub_cancel]
    refine ⟨by omega, ih.2.1, fun _ => ?_⟩
    cases j with
    | zero => rw [li_cons_zero]; omega
    | succ j => rw [li_cons_succ]; exact ih.2.2 (by omega)
theorem SubI.of_ris {N : Nat} {ys : List Nat} (h : Ris N 0 ys) : SubI (N : Int) (zsI ys) (zsI ys).length := fun j hj => by
  rw [zs_length] at hj
  have := sub_of_ris h j hj
  exact ⟨by omega, this.2.1, this.2.2⟩
theorem sbs_of_ris {N : Nat} {ys : List Nat} (h : Ris N 0 ys) (hN : N ≤ 200) : sbsB (N : Int) (zsI ys) = true ∧ risB (N : Int) (zsI ys) = true ∧ rkI (N : Int) (zsI ys) = rk N 0 ys := by
  have h1 := ris_yes (SubI.of_ris h)
  have h2 : sbsB (N : Int) (zsI ys) = true := by rw [sbsB, h1, okI_true (by omega) (by omega)]; rfl
  refine ⟨h2, h1, ?_⟩
  rw [rkI, if_pos h2, ns_zs, Int.toNat_natCast]
theorem rising_b {w : World} {Bd m c : Nat} {A : Option Addr} {xs : List Int} {n k0 : Int} (hx : RdI w Bd A m c xs) (hB : Bd ≤ w.heap.size) (hk0 : k0 = (m : Int)) {b : Bool} (h : risB n xs = b) : Calls Try.prog 26 #[.int .i64 n, .int .i64 k0, .slice A m c] w (fun e w' => e = .returned (.bool b) ∧ Below w.heap.size w w') := by
  rw [← h]; exact rising_any hx hB hk0
/-- the case: a rank below the number of subsets -/
theorem rank_case {N K r : Nat} (hN : N ≤ 200) (h : r < ch N K) : ∃ U, urk N N 0 K r = U ∧ Ris N 0 U ∧ U.length = K ∧ rk N 0 U = r := by
  obtain ⟨a, b, c⟩ := urk_ok (n := N) (d := N) (f := 0) (k := K) (r := r) rfl (by omega) h
  exact ⟨_, rfl, a, b, c⟩
set_option maxHeartbeats 4000000 in
set_option maxRecDepth 100000 in
theorem rank6_walk {w : World} {n k : Int} (hi : I64 n ∧ I64 k) {Bd l c : Nat} {A : Option Addr} {xs : List Nat} (hx : Rd w Bd A l c xs) (hB : Bd ≤ w.heap.size) : Calls Try.prog 7 #[.int .i64 n, .int .i64 k, .slice A l c] w (fun e w' => e = .returned (.bool true) ∧ Below w.heap.size w w') := by
  have hcap := hx.cap
  have hbig := hx.big
  have hcb := hx.cbig
  replace hi := hide hi
  by_cases h40 : 40 < l
  · have d0 : decide ((40 : Int) < (l : Int)) = true := by simp; omega
    obtain ⟨b, hb0⟩ : ∃ b, okI n = b := ⟨_, rfl⟩
    replace hb0 := hide hb0
    clear hx hB
    have B := hide (Below.refl w.heap.size w)
    go_enter Try.func7, Try.ntmps7
    go_wp2_with fail
    refine (choose_b hi.out hb0.out).mono ?_
    rintro e w1 ⟨x_a, rfl, R_a, hb⟩
    replace B := hide (Below.then_ B.out hb)
    clear hb
    replace R_a := hide R_a
    go_wp2
    go_ret
    exact ⟨rfl, B.out⟩
  · have d0 : decide ((40 : Int) < (l : Int)) = false := by simp; omega
    have h_x : Nv w Bd ⟨A, l, c⟩ (val xs) := ⟨xs, hx, rfl, by show l ≤ 1000000; omega⟩
    obtain ⟨r, hr⟩ : ∃ r, val xs = r := ⟨_, rfl⟩
    rw [hr] at h_x
    clear hx hr
    by_cases hin : 0 ≤ n ∧ n ≤ 200
    · have hb0 := hide (okI_true hin.1 hin.2)
      have e0 : decide (n < 0) = false := by simp; omega
      have e1 : decide ((200 : Int) < n) = false := by simp; omega
      by_cases hlt : r < chI n k
      · obtain ⟨N, K, rfl, rfl, hN, hK, hlt2⟩ := chI_pos hlt
        obtain ⟨U, hU, hUr, hUl, hUk⟩ := rank_case hN hlt2
        have hun := hide (un_yes (N := N) (K := K) hlt)
        have hs := hide (sbs_of_ris hUr hN)
        have hch := hide (chI_nat hN hK)
        obtain ⟨cv, hcv⟩ : ∃ cv, cmpN r (ch N K) = cv := ⟨_, rfl⟩
        have hneg : cv < 0 := by rw [← hcv, cmpN_neg_iff]; exact hlt2
        have e2 : decide (cv < 0) = true := by simpa using hneg
        obtain ⟨cv2, hcv2⟩ : ∃ cv, cmpN (r + 1) (ch N K) = cv := ⟨_, rfl⟩
        have hch200 := hide (ch_sm (n := N) (k := K) hN)
        have hsr := hide (show Sm (r + 1) from Sm.mono (by omega) hch200.out)
        have hlt3 := hide hlt2
        have hUr' := hide hUr
        rw [hU] at hun
        have hUl' := hide hUl
        have hUk' := hide hUk
        have hcv' := hide hcv
        have hcv2' := hide hcv2
        cases hnx : nxt N U with
        | none =>
          have hnx2 := hide (nx_none (N := N) hs.out.1 rfl hnx)
          have hlast := (nxt_ok hUr (by omega)).2 hnx
          rw [Nat.sub_zero, hUk, hUl] at hlast
          have e3 : decide (cv2 < 0) = false := by
            have h3 : ¬ cv2 < 0 := by rw [← hcv2, cmpN_neg_iff]; omega
            simpa using h3
          clear hin hlt hlt2 hU hUr hUl hUk hcv hcv2 hneg hnx hlast
          have R_x := hide (h_x.upto (Below.refl _ _) hB)
          clear h_x
          have B := hide (Below.refl w.heap.size w)
          go_enter Try.func7, Try.ntmps7
          go_wp2_with fail
          refine (choose_b hi.out hb0.out).mono ?_
          rintro e w1 ⟨x_a, rfl, R_a, hb⟩
          replace R_x := hide (R_x.out.then_ hb)
          replace B := hide (Below.then_ B.out hb)
          clear hb
          replace R_a := hide R_a
          rw [hch.out] at R_a
          go_wp2_with fail
          refine (unrank_b (x := ⟨A, l, c⟩) hi.out R_x.out (Nat.le_refl _) hun.out.1).mono ?_
          rintro e w2 ⟨A_u, n_u, c_u, rfl, R_u, hb⟩
          replace R_x := hide (R_x.out.then_ hb)
          replace R_a := hide (R_a.out.then_ hb)
          replace B := hide (Below.then_ B.out hb)
          clear hb
          replace R_u := hide R_u
          rw [hun.out.2] at R_u
          obtain rfl : n_u = K := by have h := R_u.out.len; rw [zs_length, hUl'.out] at h; exact h.symm
          have hcu := R_u.out.cap
          have hcu2 := R_u.out.cbig
          go_wp2_with fail
          refine (cmp_c (x := ⟨A, l, c⟩) R_x.out (R_a.out.nv hch200.out) hcv'.out).mono ?_
          rintro e w3 ⟨rfl, hb⟩
          replace R_x := hide (R_x.out.then_ hb)
          replace R_a := hide (R_a.out.then_ hb)
          replace R_u := hide (R_u.out.then_ hb)
          replace B := hide (Below.then_ B.out hb)
          clear hb
          go_wp2_with fail
          refine (rank_b R_u.out (Nat.le_refl _) hs.out.1).mono ?_
          rintro e w4 ⟨x_r, rfl, R_r, hb⟩
          replace R_x := hide (R_x.out.then_ hb)
          replace R_a := hide (R_a.out.then_ hb)
          replace R_u := hide (R_u.out.then_ hb)
          replace B := hide (Below.then_ B.out hb)
          clear hb
          replace R_r := hide R_r
          rw [hs.out.2.2, hUk'.out] at R_r
          go_wp2_with fail
          refine (rising_b R_u.out (Nat.le_refl _) rfl hs.out.2.1).mono ?_
          rintro e w5 ⟨rfl, hb⟩
          replace R_x := hide (R_x.out.then_ hb)
          replace R_a := hide (R_a.out.then_ hb)
          replace R_u := hide (R_u.out.then_ hb)
          replace R_r := hide (R_r.out.then_ hb)
          replace B := hide (Below.then_ B.out hb)
          clear hb
          go_wp2_with fail
          refine (norm_c (x := ⟨A, l, c⟩) R_x.out (Nat.le_refl _)).mono ?_
          rintro e w6 ⟨x_m, rfl, R_m, hb⟩
          replace R_x := hide (R_x.out.then_ hb)
          replace R_a := hide (R_a.out.then_ hb)
          replace R_u := hide (R_u.out.then_ hb)
          replace R_r := hide (R_r.out.then_ hb)
          replace B := hide (Below.then_ B.out hb)
          clear hb
          replace R_m := hide R_m
          go_wp2_with fail
          refine (limbs_c R_r.out R_m.out rfl).mono ?_
          rintro e w7 ⟨rfl, hb⟩
          replace R_x := hide (R_x.out.then_ hb)
          replace R_a := hide (R_a.out.then_ hb)
          replace R_u := hide (R_u.out.then_ hb)
          replace R_r := hide (R_r.out.then_ hb)
          replace R_m := hide (R_m.out.then_ hb)
          replace B := hide (Below.then_ B.out hb)
          clear hb
          clear R_r
          clear R_m
          go_wp2_with fail
          refine (of_c (m := 1) (by omega)).mono ?_
          rintro e w8 ⟨x_o, rfl, R_o, hb⟩
          replace R_x := hide (R_x.out.then_ hb)
          replace R_a := hide (R_a.out.then_ hb)
          replace R_u := hide (R_u.out.then_ hb)
          replace B := hide (Below.then_ B.out hb)
          clear hb
          replace R_o := hide R_o
          go_wp2_with fail
          refine (add_c (x := ⟨A, l, c⟩) R_x.out (R_o.out.nv (nat_sm (by omega))) (Nat.le_refl _) rfl).mono ?_
          rintro e w9 ⟨x_s, rfl, R_s, hb⟩
          replace R_x := hide (R_x.out.then_ hb)
          replace R_a := hide (R_a.out.then_ hb)
          replace R_u := hide (R_u.out.then_ hb)
          replace R_o := hide (R_o.out.then_ hb)
          replace B := hide (Below.then_ B.out hb)
          clear hb
          replace R_s := hide R_s
          clear R_o
          go_wp2_with fail
          refine (next_b R_u.out (Nat.le_refl _) hnx2.out.1).mono ?_
          rintro e w10 ⟨A_v, n_v, c_v, rfl, R_v, hb⟩
          replace R_x := hide (R_x.out.then_ hb)
          replace R_a := hide (R_a.out.then_ hb)
          replace R_u := hide (R_u.out.then_ hb)
          replace R_s := hide (R_s.out.then_ hb)
          replace B := hide (Below.then_ B.out hb)
          clear hb
          replace R_v := hide R_v
          rw [hnx2.out.2] at R_v
          have hcv3 := R_v.out.cap
          have hcv4 := R_v.out.cbig
          go_wp2_with fail
          refine (cmp_c (R_s.out.nv hsr.out) (R_a.out.nv hch200.out) hcv2'.out).mono ?_
          rintro e w11 ⟨rfl, hb⟩
          replace R_x := hide (R_x.out.then_ hb)
          replace R_a := hide (R_a.out.then_ hb)
          replace R_u := hide (R_u.out.then_ hb)
          replace R_s := hide (R_s.out.then_ hb)
          replace R_v := hide (R_v.out.then_ hb)
          replace B := hide (Below.then_ B.out hb)
          clear hb
          go_wp2
          go_ret
          exact ⟨rfl, B.out⟩
        | some M =>
          have hnx2 := hide (nx_some (N := N) hs.out.1 rfl hnx)
          obtain ⟨hMr, hMl, hMk⟩ := (nxt_ok hUr (by omega)).1 M hnx
          have hlast := rk_lt hMr (by omega)
          rw [Nat.sub_zero, hMk, hMl, hUk, hUl] at hlast
          have hsM := hide (sbs_of_ris hMr hN)
          have hMl' := hide (hMl.trans hUl)
          have hMk' := hide (show rk N 0 M = r + 1 by rw [hMk, hUk])
          have e3 : decide (cv2 < 0) = true := by
            have h3 : cv2 < 0 := by rw [← hcv2, cmpN_neg_iff]; exact hlast
            simpa using h3
          clear hin hlt hlt2 hU hUr hUl hUk hcv hcv2 hneg hnx hlast hMr hMl hMk
          have R_x := hide (h_x.upto (Below.refl _ _) hB)
          clear h_x
          have B := hide (Below.refl w.heap.size w)
          go_enter Try.func7, Try.ntmps7
          go_wp2_with fail
          refine (choose_b hi.out hb0.out).mono ?_
          rintro e w1 ⟨x_a, rfl, R_a, hb⟩
          replace R_x := hide (R_x.out.then_ hb)
          replace B := hide (Below.then_ B.out hb)
          clear hb
          replace R_a := hide R_a
          rw [hch.out] at R_a
          go_wp2_with fail
          refine (unrank_b (x := ⟨A, l, c⟩) hi.out R_x.out (Nat.le_refl _) hun.out.1).mono ?_
          rintro e w2 ⟨A_u, n_u, c_u, rfl, R_u, hb⟩
          replace R_x := hide (R_x.out.then_ hb)
          replace R_a := hide (R_a.out.then_ hb)
          replace B := hide (Below.then_ B.out hb)
          clear hb
          replace R_u := hide R_u
          rw [hun.out.2] at R_u
          obtain rfl : n_u = K := by have h := R_u.out.len; rw [zs_length, hUl'.out] at h; exact h.symm
          have hcu := R_u.out.cap
          have hcu2 := R_u.out.cbig
          go_wp2_with fail
          refine (cmp_c (x := ⟨A, l, c⟩) R_x.out (R_a.out.nv hch200.out) hcv'.out).mono ?_
          rintro e w3 ⟨rfl, hb⟩
          replace R_x := hide (R_x.out.then_ hb)
          replace R_a := hide (R_a.out.then_ hb)
          replace R_u := hide (R_u.out.then_ hb)
          replace B := hide (Below.then_ B.out hb)
          clear hb
          go_wp2_with fail
          refine (rank_b R_u.out (Nat.le_refl _) hs.out.1).mono ?_
          rintro e w4 ⟨x_r, rfl, R_r, hb⟩
          replace R_x := hide (R_x.out.then_ hb)
          replace R_a := hide (R_a.out.then_ hb)
          replace R_u := hide (R_u.out.then_ hb)
          replace B := hide (Below.then_ B.out hb)
          clear hb
          replace R_r := hide R_r
          rw [hs.out.2.2, hUk'.out] at R_r
          go_wp2_with fail
          refine (rising_b R_u.out (Nat.le_refl _) rfl hs.out.2.1).mono ?_
          rintro e w5 ⟨rfl, hb⟩
          replace R_x := hide (R_x.out.then_ hb)
          replace R_a := hide (R_a.out.then_ hb)
          replace R_u := hide (R_u.out.then_ hb)
          replace R_r := hide (R_r.out.then_ hb)
          replace B := hide (Below.then_ B.out hb)
          clear hb
          go_wp2_with fail
          refine (norm_c (x := ⟨A, l, c⟩) R_x.out (Nat.le_refl _)).mono ?_
          rintro e w6 ⟨x_m, rfl, R_m, hb⟩
          replace R_x := hide (R_x.out.then_ hb)
          replace R_a := hide (R_a.out.then_ hb)
          replace R_u := hide (R_u.out.then_ hb)
          replace R_r := hide (R_r.out.then_ hb)
          replace B := hide (Below.then_ B.out hb)
          clear hb
          replace R_m := hide R_m
          go_wp2_with fail
          refine (limbs_c R_r.out R_m.out rfl).mono ?_
          rintro e w7 ⟨rfl, hb⟩
          replace R_x := hide (R_x.out.then_ hb)
          replace R_a := hide (R_a.out.then_ hb)
          replace R_u := hide (R_u.out.then_ hb)
          replace R_r := hide (R_r.out.then_ hb)
          replace R_m := hide (R_m.out.then_ hb)
          replace B := hide (Below.then_ B.out hb)
          clear hb
          clear R_r
          clear R_m
          go_wp2_with fail
          refine (of_c (m := 1) (by omega)).mono ?_
          rintro e w8 ⟨x_o, rfl, R_o, hb⟩
          replace R_x := hide (R_x.out.then_ hb)
          replace R_a := hide (R_a.out.then_ hb)
          replace R_u := hide (R_u.out.then_ hb)
          replace B := hide (Below.then_ B.out hb)
          clear hb
          replace R_o := hide R_o
          go_wp2_with fail
          refine (add_c (x := ⟨A, l, c⟩) R_x.out (R_o.out.nv (nat_sm (by omega))) (Nat.le_refl _) rfl).mono ?_
          rintro e w9 ⟨x_s, rfl, R_s, hb⟩
          replace R_x := hide (R_x.out.then_ hb)
          replace R_a := hide (R_a.out.then_ hb)
          replace R_u := hide (R_u.out.then_ hb)
          replace R_o := hide (R_o.out.then_ hb)
          replace B := hide (Below.then_ B.out hb)
          clear hb
          replace R_s := hide R_s
          clear R_o
          go_wp2_with fail
          refine (next_b R_u.out (Nat.le_refl _) hnx2.out.1).mono ?_
          rintro e w10 ⟨A_v, n_v, c_v, rfl, R_v, hb⟩
          replace R_x := hide (R_x.out.then_ hb)
          replace R_a := hide (R_a.out.then_ hb)
          replace R_u := hide (R_u.out.then_ hb)
          replace R_s := hide (R_s.out.then_ hb)
          replace B := hide (Below.then_ B.out hb)
          clear hb
          replace R_v := hide R_v
          rw [hnx2.out.2] at R_v
          have hcv3 := R_v.out.cap
          have hcv4 := R_v.out.cbig
          go_wp2_with fail
          refine (cmp_c (R_s.out.nv hsr.out) (R_a.out.nv hch200.out) hcv2'.out).mono ?_
          rintro e w11 ⟨rfl, hb⟩
          replace R_x := hide (R_x.out.then_ hb)
          replace R_a := hide (R_a.out.then_ hb)
          replace R_u := hide (R_u.out.then_ hb)
          replace R_s := hide (R_s.out.then_ hb)
          replace R_v := hide (R_v.out.then_ hb)
          replace B := hide (Below.then_ B.out hb)
          clear hb
          obtain rfl : n_v = n_u := by have h := R_v.out.len; rw [zs_length, hMl'.out] at h; exact h.symm
          go_wp2_with fail
          refine (rank_b R_v.out (Nat.le_refl _) hsM.out.1).mono ?_
          rintro e w12 ⟨x_r, rfl, R_r, hb⟩
          replace R_x := hide (R_x.out.then_ hb)
          replace R_a := hide (R_a.out.then_ hb)
          replace R_u := hide (R_u.out.then_ hb)
          replace R_s := hide (R_s.out.then_ hb)
          replace R_v := hide (R_v.out.then_ hb)
          replace B := hide (Below.then_ B.out hb)
          clear hb
          replace R_r := hide R_r
          rw [hsM.out.2.2, hMk'.out] at R_r
          go_wp2_with fail
          refine (rising_b R_v.out (Nat.le_refl _) rfl hsM.out.2.1).mono ?_
          rintro e w13 ⟨rfl, hb⟩
          replace R_x := hide (R_x.out.then_ hb)
          replace R_a := hide (R_a.out.then_ hb)
          replace R_u := hide (R_u.out.then_ hb)
          replace R_s := hide (R_s.out.then_ hb)
          replace R_v := hide (R_v.out.then_ hb)
          replace R_r := hide (R_r.out.then_ hb)
          replace B := hide (Below.then_ B.out hb)
          clear hb
          go_wp2_with fail
          refine (limbs_c R_r.out R_s.out rfl).mono ?_
          rintro e w14 ⟨rfl, hb⟩
          replace R_x := hide (R_x.out.then_ hb)
          replace R_a := hide (R_a.out.then_ hb)
          replace R_u := hide (R_u.out.then_ hb)
          replace R_s := hide (R_s.out.then_ hb)
          replace R_v := hide (R_v.out.then_ hb)
          replace R_r := hide (R_r.out.then_ hb)
          replace B := hide (Below.then_ B.out hb)
          clear hb
          go_wp2
          go_ret
          exact ⟨rfl, B.out⟩
      · have hun := hide (un_no hlt)
        obtain ⟨cv, hcv⟩ : ∃ cv, cmpN r (chI n k) = cv := ⟨_, rfl⟩
        have hneg : ¬ cv < 0 := by rw [← hcv, cmpN_neg_iff]; exact hlt
        have e2 : decide (cv < 0) = false := by simpa using hneg
        have hcv' := hide hcv
        clear hin hlt hcv hneg
        have R_x := hide (h_x.upto (Below.refl _ _) hB)
        clear h_x
        have B := hide (Below.refl w.heap.size w)
        go_enter Try.func7, Try.ntmps7
        go_wp2_with fail
        refine (choose_b hi.out hb0.out).mono ?_
        rintro e w1 ⟨x_a, rfl, R_a, hb⟩
        replace R_x := hide (R_x.out.then_ hb)
        replace B := hide (Below.then_ B.out hb)
        clear hb
        replace R_a := hide R_a
        go_wp2_with fail
        refine (unrank_b (x := ⟨A, l, c⟩) hi.out R_x.out (Nat.le_refl _) hun.out.1).mono ?_
        rintro e w2 ⟨A_u, n_u, c_u, rfl, R_u, hb⟩
        replace R_x := hide (R_x.out.then_ hb)
        replace R_a := hide (R_a.out.then_ hb)
        replace B := hide (Below.then_ B.out hb)
        clear hb
        replace R_u := hide R_u
        go_wp2_with fail
        refine (cmp_c (x := ⟨A, l, c⟩) R_x.out (R_a.out.nv (chI_sm _ _)) hcv'.out).mono ?_
        rintro e w3 ⟨rfl, hb⟩
        replace R_x := hide (R_x.out.then_ hb)
        replace R_a := hide (R_a.out.then_ hb)
        replace R_u := hide (R_u.out.then_ hb)
        replace B := hide (Below.then_ B.out hb)
        clear hb
        go_wp2
        go_ret
        exact ⟨rfl, B.out⟩
    · have hb0 := hide (okI_false hin)
      have e0 : decide (n < 0) = true ∨ (decide (n < 0) = false ∧ decide ((200 : Int) < n) = true) := by simp; omega
      clear hin h_x hB
      rcases e0 with e0 | ⟨e0, e1⟩
      all_goals
        have B := hide (Below.refl w.heap.size w)
        go_enter Try.func7, Try.ntmps7
        go_wp2_with fail
        refine (choose_b hi.out hb0.out).mono ?_
        rintro e w1 ⟨x_a, rfl, R_a, hb⟩
        replace B := hide (Below.then_ B.out hb)
        clear hb
        replace R_a := hide R_a
        go_wp2
        go_ret
        exact ⟨rfl, B.out⟩
end Go.Proofs.Ytdakfpapigieiaa
