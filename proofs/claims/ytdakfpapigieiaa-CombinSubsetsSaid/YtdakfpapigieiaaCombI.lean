/-
  The reference's Unrank.
-/
import Derived.Test.YtdakfpapigieiaaCombH
namespace Go.Proofs.Ytdakfpapigieiaa
open Go.RowKit

set_option maxHeartbeats 8000000 in
set_option maxRecDepth 100000 in
theorem runrank_any {w : World} {Bd : Nat} {x : Nc} {r : Nat} {n k : Int} (hx : Nv w Bd x r) (hB : Bd ≤ w.heap.size) :
    Calls Try.prog 24 #[.int .i64 n, .int .i64 k, .slice x.A x.n x.c] w (RetLB w (unI n k r) (unB n k r)) := by
  have R := hide (hx.upto (Below.refl _ _) hB)
  have B := hide (Below.refl w.heap.size w)
  clear hx hB
  by_cases hin : (0 ≤ n ∧ n ≤ 200) ∧ 0 ≤ k ∧ k ≤ n
  · obtain ⟨N, rfl⟩ : ∃ N : Nat, n = (N : Int) := ⟨n.toNat, by omega⟩
    obtain ⟨K, rfl⟩ : ∃ K : Nat, k = (K : Int) := ⟨k.toNat, by omega⟩
    have hN : N ≤ 200 := by omega
    have hK : K ≤ N := by omega
    have hch := hide (chI_nat hN hK)
    have e0 : decide ((N : Int) < 0) = false := by simp
    have e1 : decide ((200 : Int) < (N : Int)) = false := by simp; omega
    have e2 : decide ((K : Int) < 0) = false := by simp
    have e3 : decide ((N : Int) < (K : Int)) = false := by simp; omega
    have e4 : decide (N < K) = false := by simp; omega
    clear hin
    obtain ⟨cv, hcv⟩ : ∃ cv, cmpN r (ch N K) = cv := ⟨_, rfl⟩
    by_cases hr : r < ch N K
    · have hun := un_yes (N := N) (K := K) (r := r) (by rw [hch.out]; exact hr)
      rw [hun.1, hun.2]
      have hneg : cv < 0 := by rw [← hcv, cmpN_neg_iff]; exact hr
      have d0 : decide ((0 : Int) ≤ cv) = false := by simp; omega
      obtain ⟨U, hU⟩ : ∃ U, urk N N 0 K r = U := ⟨_, rfl⟩
      rw [hU]
      replace hU := hide hU
      have hrk := hide hr
      replace hcv := hide hcv
      have hRs := hide (show Sm r from Sm.mono (Nat.le_of_lt hr) (ch_sm hN))
      clear hun hneg hr
      go_enter Try.func24, Try.ntmps24
      go_wp2_with fail
      refine (rchoose_nat (N := N) (K := K) rfl rfl hN hK rfl).mono ?_
      rintro e w1 ⟨x1, rfl, R1, hb⟩
      replace R := hide (R.out.then_ hb)
      replace B := hide (Below.then_ B.out hb)
      replace R1 := hide R1
      clear hb
      go_wp2_with fail
      refine (rcmp_c R.out (R1.out.nv (ch_sm hN)) hcv.out).mono ?_
      rintro e w2 ⟨rfl, hb⟩
      replace R := hide (R.out.then_ hb)
      replace B := hide (Below.then_ B.out hb)
      clear hb R1
      go_wp2_with fail
      refine (rnorm_c R.out (Nat.le_refl _)).mono ?_
      rintro e w3 ⟨x3, rfl, R3, hb⟩
      replace B := hide (Below.then_ B.out hb)
      replace R3 := hide (R3.nv hRs.out)
      clear hb R
      go_wp2
      go_loopw [10, 11, 12] (fun q s i wr => ∃ (f j c' rv : Nat) (us : List Nat) (A' : Option Addr) (y : Nc), f ≤ N ∧ j ≤ K ∧ j ≤ c' ∧ c' ≤ 9223372036854775807 ∧ q = .slice y.A y.n y.c ∧ s = .slice A' j c' ∧ i = .int .i64 f ∧
        Hid (us.length = j) ∧ Hid (rv < ch (N - f) (K - us.length)) ∧ Hid (us ++ urk N (N - f) f (K - us.length) rv = U) ∧ Hid (Nv wr wr.heap.size y rv) ∧ Hid (OwnI wr w.heap.size (.slice A' j c') (zsI us)) ∧ Hid (Below w.heap.size w wr)) (fun _ _ i _ => N - (intOf i).toNat)
      case atStart => exact ⟨0, 0, 0, r, [], none, x3, by omega, by omega, by omega, by omega, rfl, rfl, rfl, hide rfl, hrk, hide (by simpa using hU.out), R3, hide (OwnI.nil _ _), B⟩
      case round =>
        obtain ⟨f, j, c', rv, us, A', y, hf, hj, hjc, hcc, rfl, rfl, rfl, hl, hlt, hsum, Ry, hOw, B2⟩ := hrel
        clear B R3
        by_cases hjK : j < K
        · obtain ⟨d, hd⟩ : ∃ d, N - f = d + 1 := ⟨N - f - 1, by
            have h1 := hlt.out
            by_cases hz : N - f = 0
            · rw [hz, ch_lt (by have := hl.out; omega)] at h1; omega
            · omega⟩
          obtain ⟨kk, hkk⟩ : ∃ kk, K - j = kk + 1 := ⟨K - j - 1, by omega⟩
          have hd2 : N - 1 - f = d := by omega
          replace hlt := hide (show rv < ch (d + 1) (kk + 1) by have h := hlt.out; rw [hl.out, hd, hkk] at h; exact h)
          replace hsum := hide (show us ++ urk N (d + 1) f (kk + 1) rv = U by have h := hsum.out; rw [hl.out, hd, hkk] at h; exact h)
          have hkd : kk ≤ d := by
            have h1 := hlt.out
            by_cases hz : d < kk
            · rw [ch_lt (by omega)] at h1; omega
            · omega
          obtain ⟨cv2, hcv2⟩ : ∃ cv, cmpN rv (ch d kk) = cv := ⟨_, rfl⟩
          have hcv2h := hide hcv2
          have hfN : f < N := by omega
          have t0 : decide ((f : Int) < (N : Int)) = true := by simp; omega
          have t1 : decide ((j : Int) < (K : Int)) = true := by simp; omega
          have hdh := hide hd
          have hkkh := hide hkk
          have hd2h := hide hd2
          clear hd hkk hd2
          go_wp2_with fail
          refine (rchoose_nat (N := d) (K := kk) (by have := hdh.out; omega) (by have := hkkh.out; omega) (by have := hdh.out; omega) hkd rfl).mono ?_
          rintro e w4 ⟨xa, rfl, Ra, hb⟩
          replace Ry := hide (Ry.out.then_ hb)
          replace hOw := hide (hOw.out.then_ hb)
          replace B2 := hide (Below.then_ B2.out hb)
          replace Ra := hide Ra
          clear hb
          go_wp2_with fail
          refine (rcmp_c Ry.out (Ra.out.nv (ch_sm (by have := hdh.out; omega))) hcv2h.out).mono ?_
          rintro e w5 ⟨rfl, hb⟩
          replace Ry := hide (Ry.out.then_ hb)
          replace hOw := hide (hOw.out.then_ hb)
          replace B2 := hide (Below.then_ B2.out hb)
          replace Ra := hide (Ra.out.then_ hb)
          clear hb
          by_cases hlow : rv < ch d kk
          · have hneg : cv2 < 0 := by rw [← hcv2, cmpN_neg_iff]; exact hlow
            have d1 : decide (cv2 < 0) = true := by simpa using hneg
            have hs2 := hide (show (us ++ [f]) ++ urk N d (f + 1) kk rv = U by have h := hsum.out; rw [urk_yes (by rw [hd2h.out]; exact hlow)] at h; rw [← h]; simp)
            have hlow' := hide hlow
            clear hcv2 hneg hlow hsum hlt Ra
            go_wp2_with (at_builtin; refine wpList_append_int rfl (.tmp 70) (.tmp 72) rfl w.heap.size _ _ rfl (hOw.out.alloc _) ⟨w5.heap.size, 0, none⟩ 1 (f : Int) rfl (by simp) ⟨by omega, by omega⟩ (by rw [zs_length, hl.out]; omega) (by have := B2.out.size; simp; omega) ?_; intro v' w6 hO5 hg5)
            replace Ry := hide (Ry.out.push hOw.out hg5)
            replace B2 := hide (hOw.out.pushed hg5 B2.out B2.out.size)
            rw [← zs_append] at hO5
            obtain ⟨A5, c5, rfl, hl5, hc5⟩ := hO5.form
            rw [zs_length] at hl5
            have hlen5 : (us ++ [f]).length = j + 1 := by simp [hl.out]
            rw [zs_length, hlen5] at hO5
            rw [hlen5] at hl5
            rw [zs_length, hlen5]
            replace hO5 := hide hO5
            have hl' := hide hlen5
            have e1 := hide (show N - (f + 1) = d by have := hdh.out; omega)
            have e2 := hide (show K - (j + 1) = kk by have := hkkh.out; omega)
            clear hlen5 hg5 hOw
            go_wp2
            go_roundw
            case rel => exact ⟨f + 1, j + 1, c5, rv, us ++ [f], A5, y, by omega, by omega, hl5, hc5, rfl, by go_num, by go_num, hl', hide (by rw [hl'.out, e1.out, e2.out]; exact hlow'.out), hide (by rw [hl'.out, e1.out, e2.out]; exact hs2.out), Ry, hO5, B2⟩
            case measure => simp [intOf]; omega
          · have hneg : ¬ cv2 < 0 := by rw [← hcv2, cmpN_neg_iff]; exact hlow
            have d1 : decide (cv2 < 0) = false := by simpa using hneg
            have hs2 := hide (show us ++ urk N d (f + 1) (kk + 1) (rv - ch d kk) = U by have h := hsum.out; rw [urk_not (by rw [hd2h.out]; exact hlow), hd2h.out] at h; exact h)
            have hlt2 := hide (show rv - ch d kk < ch d (kk + 1) by have h := hlt.out; rw [ch_succ] at h; omega)
            have hlow' := hide (show ch d kk ≤ rv by omega)
            have hsm := hide (show Sm (rv - ch d kk) from Sm.mono (Nat.le_of_lt hlt2.out) (ch_sm (by have := hdh.out; omega)))
            have e1 := hide (show N - (f + 1) = d by have := hdh.out; omega)
            clear hcv2 hneg hlow hsum hlt
            go_wp2_with fail
            refine (rsub_c Ry.out (Ra.out.nv (ch_sm (by have := hdh.out; omega))) (Nat.le_refl _) hlow'.out rfl).mono ?_
            rintro e w6 ⟨x5, rfl, R5, hb⟩
            replace hOw := hide (hOw.out.then_ hb)
            replace B2 := hide (Below.then_ B2.out hb)
            replace R5 := hide (R5.nv hsm.out)
            clear hb Ra Ry
            go_wp2
            go_roundw
            case rel => exact ⟨f + 1, j, c', rv - ch d kk, us, A', x5, by omega, by omega, hjc, hcc, rfl, rfl, by go_num, hl, hide (by rw [hl.out, e1.out, hkkh.out]; exact hlt2.out), hide (by rw [hl.out, e1.out, hkkh.out]; exact hs2.out), R5, hOw, B2⟩
            case measure => simp [intOf]; omega
        · obtain rfl : j = K := by omega
          have hus := hide (show us = U by have h := hsum.out; rw [hl.out, Nat.sub_self, urk_nil, List.append_nil] at h; exact h)
          obtain ⟨A6, n6, c6, e6, hR6⟩ := hOw.out.rd (by rw [zs_length, hl.out]; omega)
          simp only [Value.slice.injEq] at e6
          obtain ⟨rfl, rfl, rfl⟩ := e6
          replace hR6 := hide hR6
          have t0 : (decide ((f : Int) < (N : Int)) = false ∧ decide (f < N) = false) ∨ (decide ((f : Int) < (N : Int)) = true ∧ decide (f < N) = true) := by simp; omega
          have t1 : decide ((j : Int) < (j : Int)) = false := by simp
          rcases t0 with ⟨t0, t2⟩ | ⟨t0, t2⟩
          all_goals
            go_wp2
            go_ret2
            exact ⟨_, _, _, rfl, by rw [← hus.out]; exact hR6.out, B2.out⟩
    · have hun := un_no (n := (N : Int)) (k := (K : Int)) (r := r) (by rw [hch.out]; exact hr)
      rw [hun.1, hun.2]
      have hneg : 0 ≤ cv := by rw [← hcv, cmpN_ge_iff]; omega
      have d0 : decide ((0 : Int) ≤ cv) = true := by simpa using hneg
      replace hcv := hide hcv
      clear hun hneg hr
      go_enter Try.func24, Try.ntmps24
      go_wp2_with fail
      refine (rchoose_nat (N := N) (K := K) rfl rfl hN hK rfl).mono ?_
      rintro e w1 ⟨x1, rfl, R1, hb⟩
      replace R := hide (R.out.then_ hb)
      replace B := hide (Below.then_ B.out hb)
      replace R1 := hide R1
      clear hb
      go_wp2_with fail
      refine (rcmp_c R.out (R1.out.nv (ch_sm hN)) hcv.out).mono ?_
      rintro e w2 ⟨rfl, hb⟩
      replace B := hide (Below.then_ B.out hb)
      clear hb
      go_wp2
      go_ret2
      exact lb_nil rfl B.out
  · have hun := un_no (n := n) (k := k) (r := r) (by rw [chI, if_neg hin]; omega)
    rw [hun.1, hun.2]
    have e0 : decide (n < 0) = true ∨ (decide (n < 0) = false ∧ decide ((200 : Int) < n) = true) ∨ (decide (n < 0) = false ∧ decide ((200 : Int) < n) = false ∧ decide (k < 0) = true) ∨ (decide (n < 0) = false ∧ decide ((200 : Int) < n) = false ∧ decide (k < 0) = false ∧ decide (n < k) = true) := by simp; omega
    clear hun hin
    rcases e0 with e0 | ⟨e0, e1⟩ | ⟨e0, e1, e2⟩ | ⟨e0, e1, e2, e3⟩
    all_goals
      go_enter Try.func24, Try.ntmps24
      go_wp2
      go_ret2
      exact lb_nil rfl B.out
end Go.Proofs.Ytdakfpapigieiaa
