/-
  CombinOrder.
-/
import Derived.Test.YtdakfpapigieiaaRank6
namespace Go.Proofs.Ytdakfpapigieiaa
open Go.RowKit

theorem li_zs {ys : List Nat} {j : Nat} (h : j < ys.length) : li (zsI ys) j = ((ys[j] : Nat) : Int) := by simp [li, List.getD, zsI, h]
theorem first_diff {N i : Nat} {us vs : List Nat} (ha : Ris N 0 us) (hb : Ris N 0 vs) (hl : us.length = vs.length) (hi : i < us.length) (heq : ∀ j, j < i → li (zsI us) j = li (zsI vs) j) (hlt : li (zsI us) i < li (zsI vs) i) : rk N 0 us < rk N 0 vs := by
  obtain ⟨x, s, h1, h2, _⟩ := drop_at hi
  obtain ⟨y, t, k1, k2, _⟩ := drop_at (ys := vs) (i := i) (by omega)
  have ht : us.take i = vs.take i := by
    refine List.ext_getElem (by simp [hl]) fun j h3 h4 => ?_
    rw [List.length_take] at h3
    have h5 := heq j (by omega)
    rw [li_zs (by omega), li_zs (by omega)] at h5
    rw [List.getElem_take, List.getElem_take]
    omega
  refine rk_order ha hb hl (Nat.zero_le _) (us.take i) x y s t (by rw [← h1, List.take_append_drop]) (by rw [← k1, ht, List.take_append_drop]) (by omega)
/-- what the loop knows: no difference so far, or the order already -/
def Want (xs ys : List Int) (W : Int) (i : Nat) (v : Int) : Prop := (v = 0 ∧ ∀ j, j < i → li xs j = li ys j) ∨ (v = W ∧ v ≠ 0)
theorem cmpN_same (a : Nat) : cmpN a a = 0 := by simp [cmpN]
set_option maxHeartbeats 4000000 in
set_option maxRecDepth 100000 in
theorem order_walk {w : World} {n : Int} {Bd m m' c c' : Nat} {A A' : Option Addr} {xs ys : List Int} (h_x : RdI w Bd A m c xs) (h_y : RdI w Bd A' m' c' ys) (hB : Bd ≤ w.heap.size) : Calls Try.prog 10 #[.int .i64 n, .slice A m c, .slice A' m' c'] w (fun e w' => e = .returned (.bool true) ∧ Below w.heap.size w w') := by
  have hcap := h_x.cap
  have hbig := h_x.big
  have hcb := h_x.cbig
  have hcap' := h_y.cap
  have hbig' := h_y.big
  have hcb' := h_y.cbig
  have hlx := hide h_x.len
  have hly := hide h_y.len
  by_cases hin : 0 ≤ n ∧ n ≤ 200
  · have hb0 := hide (okI_true hin.1 hin.2)
    have e0 : decide (n < 0) = false := by simp; omega
    have e1 : decide ((200 : Int) < n) = false := by simp; omega
    by_cases hmm : m = m'
    · subst hmm
      obtain ⟨ra, hra⟩ : ∃ b, risB n xs = b := ⟨_, rfl⟩
      obtain ⟨rb, hrb⟩ : ∃ b, risB n ys = b := ⟨_, rfl⟩
      cases ra with
      | false =>
        replace hra := hide hra
        clear hin hrb
        have R_x := hide (h_x.upto (Below.refl _ _) hB)
        clear h_x
        have R_y := hide (h_y.upto (Below.refl _ _) hB)
        clear h_y
        have B := hide (Below.refl w.heap.size w)
        go_enter Try.func10, Try.ntmps10
        go_wp2_with fail
        refine (rising_b R_x.out (Nat.le_refl _) rfl hra.out).mono ?_
        rintro e w1 ⟨rfl, hb⟩
        replace R_x := hide (R_x.out.then_ hb)
        replace R_y := hide (R_y.out.then_ hb)
        replace B := hide (Below.then_ B.out hb)
        clear hb
        go_wp2
        go_ret
        exact ⟨rfl, B.out⟩
      | true =>
        cases rb with
        | false =>
          replace hra := hide hra
          replace hrb := hide hrb
          clear hin
          have R_x := hide (h_x.upto (Below.refl _ _) hB)
          clear h_x
          have R_y := hide (h_y.upto (Below.refl _ _) hB)
          clear h_y
          have B := hide (Below.refl w.heap.size w)
          go_enter Try.func10, Try.ntmps10
          go_wp2_with fail
          refine (rising_b R_x.out (Nat.le_refl _) rfl hra.out).mono ?_
          rintro e w1 ⟨rfl, hb⟩
          replace R_x := hide (R_x.out.then_ hb)
          replace R_y := hide (R_y.out.then_ hb)
          replace B := hide (Below.then_ B.out hb)
          clear hb
          go_wp2_with fail
          refine (rising_b R_y.out (Nat.le_refl _) rfl hrb.out).mono ?_
          rintro e w2 ⟨rfl, hb⟩
          replace R_x := hide (R_x.out.then_ hb)
          replace R_y := hide (R_y.out.then_ hb)
          replace B := hide (Below.then_ B.out hb)
          clear hb
          go_wp2
          go_ret
          exact ⟨rfl, B.out⟩
        | true =>
          have hsx : sbsB n xs = true := by rw [sbsB, hb0.out, hra]; rfl
          have hsy : sbsB n ys = true := by rw [sbsB, hb0.out, hrb]; rfl
          obtain ⟨N, us, hn1, hN, hxs, hra', hrkx⟩ := sbs_yes hsx
          obtain ⟨N', vs, hn2, _, hys, hrb', hrky⟩ := sbs_yes hsy
          obtain rfl : N = N' := by omega
          obtain ⟨W, hW⟩ : ∃ W, cmpN (rk N 0 us) (rk N 0 vs) = W := ⟨_, rfl⟩
          have hlen : us.length = vs.length := by
            have h1 := hlx.out
            have h2 := hly.out
            rw [hxs, zs_length] at h1
            rw [hys, zs_length] at h2
            omega
          have hlow := hide (show ∀ i, i < m → (∀ j, j < i → li xs j = li ys j) → li xs i < li ys i → W = -1 from fun i hi heq hlt => by
            rw [hxs, hys] at heq hlt
            rw [← hW]
            exact cmpN_lt (first_diff hra' hrb' hlen (by have := hlx.out; rw [hxs, zs_length] at this; omega) heq hlt))
          have hhigh := hide (show ∀ i, i < m → (∀ j, j < i → li xs j = li ys j) → li ys i < li xs i → W = 1 from fun i hi heq hlt => by
            rw [hxs, hys] at heq hlt
            rw [← hW]
            exact cmpN_gt (first_diff hrb' hra' hlen.symm (by have := hly.out; rw [hys, zs_length] at this; omega) (fun j hj => (heq j hj).symm) hlt))
          have hsame := hide (show (∀ j, j < m → li xs j = li ys j) → W = 0 from fun heq => by
            have h1 : xs = ys := li_ext (by rw [hlx.out, hly.out]) (fun j hj => heq j (by have := hlx.out; omega))
            have h2 : us = vs := by rw [← ns_zs us, ← ns_zs vs, ← hxs, ← hys, h1]
            rw [← hW, h2, cmpN_same])
          have hsmx := hide (show Sm (rk N 0 us) from rk_sm hra' (by omega) hN)
          have hsmy := hide (show Sm (rk N 0 vs) from rk_sm hrb' (by omega) hN)
          replace hW := hide hW
          replace hra := hide hra
          replace hrb := hide hrb
          replace hsx := hide hsx
          replace hsy := hide hsy
          replace hrkx := hide hrkx
          replace hrky := hide hrky
          clear hin hn1 hn2 hxs hys hra' hrb' hlen
          have R_x := hide (h_x.upto (Below.refl _ _) hB)
          clear h_x
          have R_y := hide (h_y.upto (Below.refl _ _) hB)
          clear h_y
          have B := hide (Below.refl w.heap.size w)
          go_enter Try.func10, Try.ntmps10
          go_wp2_with fail
          refine (rising_b R_x.out (Nat.le_refl _) rfl hra.out).mono ?_
          rintro e w1 ⟨rfl, hb⟩
          replace R_x := hide (R_x.out.then_ hb)
          replace R_y := hide (R_y.out.then_ hb)
          replace B := hide (Below.then_ B.out hb)
          clear hb
          go_wp2_with fail
          refine (rising_b R_y.out (Nat.le_refl _) rfl hrb.out).mono ?_
          rintro e w2 ⟨rfl, hb⟩
          replace R_x := hide (R_x.out.then_ hb)
          replace R_y := hide (R_y.out.then_ hb)
          replace B := hide (Below.then_ B.out hb)
          clear hb
          go_wp2_with fail
          refine (rank_b R_x.out (Nat.le_refl _) hsx.out).mono ?_
          rintro e w3 ⟨x_f, rfl, R_f, hb⟩
          replace R_x := hide (R_x.out.then_ hb)
          replace R_y := hide (R_y.out.then_ hb)
          replace B := hide (Below.then_ B.out hb)
          clear hb
          replace R_f := hide R_f
          rw [hrkx.out] at R_f
          go_wp2_with fail
          refine (rank_b R_y.out (Nat.le_refl _) hsy.out).mono ?_
          rintro e w4 ⟨x_g, rfl, R_g, hb⟩
          replace R_x := hide (R_x.out.then_ hb)
          replace R_y := hide (R_y.out.then_ hb)
          replace R_f := hide (R_f.out.then_ hb)
          replace B := hide (Below.then_ B.out hb)
          clear hb
          replace R_g := hide R_g
          rw [hrky.out] at R_g
          go_wp2
          go_loopw [11, 12] (fun v i wr => ∃ (i' : Nat) (wv : Int), i' ≤ m ∧ v = .int .i64 wv ∧ i = .int .i64 i' ∧ Hid (Want xs ys W i' wv) ∧ Hid (RdI wr wr.heap.size A m c xs) ∧ Hid (RdI wr wr.heap.size A' m c' ys) ∧ Hid (Nn wr wr.heap.size x_f (rk N 0 us)) ∧ Hid (Nn wr wr.heap.size x_g (rk N 0 vs)) ∧ Hid (Below w.heap.size w wr)) (fun _ i _ => m - (intOf i).toNat)
          case atStart => exact ⟨0, 0, Nat.zero_le _, rfl, rfl, hide (Or.inl ⟨rfl, fun j hj => by omega⟩), R_x, R_y, R_f, R_g, B⟩
          case round =>
            obtain ⟨i', wv, him, rfl, rfl, hWt, Rx, Ry, Rf, Rg, B2⟩ := hrel
            clear R_x R_y R_f R_g B
            by_cases hgo : i' < m ∧ wv = 0
            · obtain ⟨hil, rfl⟩ := hgo
              have heq := hide (show ∀ j, j < i' → li xs j = li ys j by
                rcases hWt.out with h | h
                · exact h.2
                · exact absurd rfl h.2)
              clear hWt
              obtain ⟨ad, hA, hadb, hca⟩ := Rx.out.at_ hil
              obtain ⟨ad', hA', hadb', hca'⟩ := Ry.out.at_ hil
              subst hA hA'
              have hi64 : (i' : Int) < (m : Int) := by omega
              have t0 : decide ((i' : Int) < (m : Int)) = true := by simp; omega
              have t1 : decide (i' < m) = true := by simp; omega
              obtain ⟨za, hza⟩ : ∃ z, li xs i' = z := ⟨_, rfl⟩
              obtain ⟨zb, hzb⟩ : ∃ z, li ys i' = z := ⟨_, rfl⟩
              rw [hza] at hca
              rw [hzb] at hca'
              replace hza := hide hza
              replace hzb := hide hzb
              rcases Int.lt_trichotomy za zb with hlt | hlt | hlt
              · have d1 : decide (za < zb) = true := by simpa using hlt
                have d2 : decide (zb < za) = false := by simp; omega
                have hnew := hide (show Want xs ys W (i' + 1) (-1) from Or.inr ⟨(hlow.out i' hil heq.out (by rw [hza.out, hzb.out]; exact hlt)).symm, by omega⟩)
                clear hlow hhigh hsame heq hlt
                go_wp2_with fail
                go_quiet (fail)
                have hb := below_drewN (Below.refl wr.heap.size wr) nq
                replace Rx := hide (Rx.out.then_ hb)
                replace Ry := hide (Ry.out.then_ hb)
                replace Rf := hide (Rf.out.then_ hb)
                replace Rg := hide (Rg.out.then_ hb)
                replace B2 := hide (Below.then_ B2.out hb)
                clear hb
                obtain ⟨nq1, hnq1⟩ : ∃ k, k = nq := ⟨_, rfl⟩
                rw [← hnq1] at Rx Ry Rf Rg B2 ⊢
                clear hnq1
                have hca2 : (wr.drewN nq1).cell? (ad.add i') = some (.int .i64 za) := hca
                have hca3 : (wr.drewN nq1).cell? (ad'.add i') = some (.int .i64 zb) := hca'
                go_wp2_with fail
                go_quiet (fail)
                have hb := below_drewN (Below.refl (wr.drewN nq1).heap.size (wr.drewN nq1)) nq
                replace Rx := hide (Rx.out.then_ hb)
                replace Ry := hide (Ry.out.then_ hb)
                replace Rf := hide (Rf.out.then_ hb)
                replace Rg := hide (Rg.out.then_ hb)
                replace B2 := hide (Below.then_ B2.out hb)
                clear hb
                rw [World.drewN_drewN] at Rx Ry Rf Rg B2
                go_wp2
                go_roundw
                case rel => exact ⟨i' + 1, -1, by omega, rfl, by go_num, hnew, Rx, Ry, Rf, Rg, B2⟩
                case measure => simp [intOf]; omega
              · subst hlt
                have d1 : decide (za < za) = false := by simp
                have hnew := hide (show Want xs ys W (i' + 1) 0 from Or.inl ⟨rfl, fun j hj => by
                  by_cases e : j = i'
                  · rw [e, hza.out, hzb.out]
                  · exact heq.out j (by omega)⟩)
                clear hlow hhigh hsame heq
                go_wp2_with fail
                go_quiet (fail)
                have hb := below_drewN (Below.refl wr.heap.size wr) nq
                replace Rx := hide (Rx.out.then_ hb)
                replace Ry := hide (Ry.out.then_ hb)
                replace Rf := hide (Rf.out.then_ hb)
                replace Rg := hide (Rg.out.then_ hb)
                replace B2 := hide (Below.then_ B2.out hb)
                clear hb
                obtain ⟨nq1, hnq1⟩ : ∃ k, k = nq := ⟨_, rfl⟩
                rw [← hnq1] at Rx Ry Rf Rg B2 ⊢
                clear hnq1
                have hca2 : (wr.drewN nq1).cell? (ad.add i') = some (.int .i64 za) := hca
                have hca3 : (wr.drewN nq1).cell? (ad'.add i') = some (.int .i64 za) := hca'
                go_wp2_with fail
                go_quiet (fail)
                have hb := below_drewN (Below.refl (wr.drewN nq1).heap.size (wr.drewN nq1)) nq
                replace Rx := hide (Rx.out.then_ hb)
                replace Ry := hide (Ry.out.then_ hb)
                replace Rf := hide (Rf.out.then_ hb)
                replace Rg := hide (Rg.out.then_ hb)
                replace B2 := hide (Below.then_ B2.out hb)
                clear hb
                rw [World.drewN_drewN] at Rx Ry Rf Rg B2
                go_wp2
                go_roundw
                case rel => exact ⟨i' + 1, 0, by omega, rfl, by go_num, hnew, Rx, Ry, Rf, Rg, B2⟩
                case measure => simp [intOf]; omega
              · have d1 : decide (za < zb) = false := by simp; omega
                have d2 : decide (zb < za) = true := by simpa using hlt
                have hnew := hide (show Want xs ys W (i' + 1) 1 from Or.inr ⟨(hhigh.out i' hil heq.out (by rw [hza.out, hzb.out]; exact hlt)).symm, by omega⟩)
                clear hlow hhigh hsame heq hlt
                go_wp2_with fail
                go_quiet (fail)
                have hb := below_drewN (Below.refl wr.heap.size wr) nq
                replace Rx := hide (Rx.out.then_ hb)
                replace Ry := hide (Ry.out.then_ hb)
                replace Rf := hide (Rf.out.then_ hb)
                replace Rg := hide (Rg.out.then_ hb)
                replace B2 := hide (Below.then_ B2.out hb)
                clear hb
                obtain ⟨nq1, hnq1⟩ : ∃ k, k = nq := ⟨_, rfl⟩
                rw [← hnq1] at Rx Ry Rf Rg B2 ⊢
                clear hnq1
                have hca2 : (wr.drewN nq1).cell? (ad.add i') = some (.int .i64 za) := hca
                have hca3 : (wr.drewN nq1).cell? (ad'.add i') = some (.int .i64 zb) := hca'
                go_wp2_with fail
                go_quiet (fail)
                have hb := below_drewN (Below.refl (wr.drewN nq1).heap.size (wr.drewN nq1)) nq
                replace Rx := hide (Rx.out.then_ hb)
                replace Ry := hide (Ry.out.then_ hb)
                replace Rf := hide (Rf.out.then_ hb)
                replace Rg := hide (Rg.out.then_ hb)
                replace B2 := hide (Below.then_ B2.out hb)
                clear hb
                rw [World.drewN_drewN] at Rx Ry Rf Rg B2
                go_wp2
                go_roundw
                case rel => exact ⟨i' + 1, 1, by omega, rfl, by go_num, hnew, Rx, Ry, Rf, Rg, B2⟩
                case measure => simp [intOf]; omega
            · have hfin : wv = W := by
                rcases hWt.out with h | h
                · have hi : i' = m := by
                    by_cases hil : i' < m
                    · exact absurd ⟨hil, h.1⟩ hgo
                    · omega
                  rw [h.1, hsame.out (by rw [← hi]; exact h.2)]
                · exact h.1
              have t0 : (decide ((i' : Int) < (m : Int)) = false ∧ decide (i' < m) = false) ∨ (decide ((i' : Int) < (m : Int)) = true ∧ decide (i' < m) = true ∧ ((W : Int) == 0) = false) := by
                by_cases hil : i' < m
                · refine Or.inr ⟨by simp; omega, by simp; omega, ?_⟩
                  have : ¬ wv = 0 := fun h => hgo ⟨hil, h⟩
                  rw [hfin] at this
                  simpa using this
                · exact Or.inl ⟨by simp; omega, by simp; omega⟩
              subst hfin
              clear hgo hWt
              rcases t0 with ⟨t0, t1⟩ | ⟨t0, t1, t2⟩
              all_goals
                go_wp2_with fail
                refine (cmp_c (Rf.out.nv hsmx.out) (Rg.out.nv hsmy.out) hW.out).mono ?_
                rintro e w9 ⟨rfl, hb⟩
                replace B2 := hide (Below.then_ B2.out hb)
                clear hb
                go_wp2
                go_ret
                exact ⟨by simp, B2.out⟩
    · have e2 : ((m : Int) != (m' : Int)) = true := by simp; omega
      have B := hide (Below.refl w.heap.size w)
      clear hin hmm h_x h_y hB
      go_enter Try.func10, Try.ntmps10
      go_wp2
      go_ret
      exact ⟨rfl, B.out⟩
  · have e0 : decide (n < 0) = true ∨ (decide (n < 0) = false ∧ decide ((200 : Int) < n) = true) := by simp; omega
    have B := hide (Below.refl w.heap.size w)
    clear hin h_x h_y hB
    rcases e0 with e0 | ⟨e0, e1⟩
    all_goals
      go_enter Try.func10, Try.ntmps10
      go_wp2
      go_ret
      exact ⟨rfl, B.out⟩
end Go.Proofs.Ytdakfpapigieiaa
