/-
  Unrank.
-/
import Derived.Test.YtdakfpapigieiaaCombF
namespace Go.Proofs.Ytdakfpapigieiaa
open Go.RowKit

noncomputable def unB (n k : Int) (r : Nat) : Bool := decide (r < chI n k)
noncomputable def unI (n k : Int) (r : Nat) : List Int := if r < chI n k then zsI (urk n.toNat n.toNat 0 k.toNat r) else []
theorem chI_pos {n k : Int} {r : Nat} (h : r < chI n k) : ∃ N K : Nat, n = (N : Int) ∧ k = (K : Int) ∧ N ≤ 200 ∧ K ≤ N ∧ r < ch N K := by
  unfold chI at h
  split at h
  · exact ⟨n.toNat, k.toNat, by omega, by omega, by omega, by omega, h⟩
  · omega
theorem un_no {n k : Int} {r : Nat} (h : ¬ r < chI n k) : unB n k r = false ∧ unI n k r = [] := ⟨by simp only [unB, decide_eq_false_iff_not]; exact h, if_neg h⟩
theorem un_yes {N K r : Nat} (h : r < chI N K) : unB N K r = true ∧ unI N K r = zsI (urk N N 0 K r) := ⟨by simp only [unB, decide_eq_true_eq]; exact h, if_pos h⟩
theorem lb_nil {w w' : World} {b : Bool} {l : List Int} (hl : l = []) (B : Below w.heap.size w w') : RetLB w l b (.returned (.tuple #[.slice none 0 0, .bool b])) w' := by
  subst hl
  exact ⟨none, 0, 0, rfl, RdI.empty _ _ _ (by omega), B⟩
theorem cmpN_ge_iff {a b : Nat} : (0 ≤ cmpN a b) = (b ≤ a) := by
  unfold cmpN
  split
  · simp; omega
  · split <;> simp <;> omega
theorem cmpN_neg_iff {a b : Nat} : (cmpN a b < 0) = (a < b) := by
  unfold cmpN
  split
  · simp; omega
  · split <;> simp <;> omega
theorem zs_append (a : List Nat) (x : Nat) : zsI (a ++ [x]) = zsI a ++ [(x : Int)] := by simp [zsI]
theorem chI_sm (n k : Int) : Sm (chI n k) := by
  unfold chI
  split
  · exact ch_sm (by omega)
  · exact nat_sm (by omega)
theorem urk_yes {N d f k r : Nat} (h : r < ch (N - 1 - f) k) : urk N (d + 1) f (k + 1) r = f :: urk N d (f + 1) k r := by rw [urk, if_pos h]
theorem urk_not {N d f k r : Nat} (h : ¬ r < ch (N - 1 - f) k) : urk N (d + 1) f (k + 1) r = urk N d (f + 1) (k + 1) (r - ch (N - 1 - f) k) := by rw [urk, if_neg h]
set_option maxHeartbeats 8000000 in
set_option maxRecDepth 100000 in
theorem unrank_any {w : World} {Bd : Nat} {x : Nc} {r : Nat} {n k : Int} (hn : I64 n) (hk : I64 k) (hx : Nv w Bd x r) (hB : Bd ≤ w.heap.size) :
    Calls Try.prog 23 #[.int .i64 n, .int .i64 k, .slice x.A x.n x.c] w (RetLB w (unI n k r) (unB n k r)) := by
  have R := hide (hx.upto (Below.refl _ _) hB)
  have B := hide (Below.refl w.heap.size w)
  have hi := hide (show I64 n ∧ I64 k from ⟨hn, hk⟩)
  clear hx hB hn hk
  obtain ⟨cv, hcv⟩ : ∃ cv, cmpN r (chI n k) = cv := ⟨_, rfl⟩
  by_cases hr : r < chI n k
  · obtain ⟨N, K, rfl, rfl, hN, hK, hrk⟩ := chI_pos hr
    have hun := un_yes hr
    rw [hun.1, hun.2]
    have hneg : cv < 0 := by rw [← hcv, cmpN_neg_iff]; exact hr
    have d0 : decide ((0 : Int) ≤ cv) = false := by simp; omega
    obtain ⟨U, hU⟩ : ∃ U, urk N N 0 K r = U := ⟨_, rfl⟩
    rw [hU]
    replace hU := hide hU
    replace hrk := hide hrk
    replace hcv := hide hcv
    have hch := hide (chI_nat hN hK)
    clear hun hneg hr
    go_enter Try.func23, Try.ntmps23
    go_wp2_with fail
    refine (choose_any hi.out.1 hi.out.2).mono ?_
    rintro e w1 ⟨x1, rfl, R1, hb⟩
    replace R := hide (R.out.then_ hb)
    replace B := hide (Below.then_ B.out hb)
    replace R1 := hide R1
    clear hb
    go_wp2_with fail
    refine (cmp_c R.out (R1.out.nv (chI_sm _ _)) hcv.out).mono ?_
    rintro e w2 ⟨rfl, hb⟩
    replace R := hide (R.out.then_ hb)
    replace R1 := hide (R1.out.then_ hb)
    replace B := hide (Below.then_ B.out hb)
    clear hb
    rw [hch.out] at R1
    go_wp2_with (at_make; refine wpList_make_ints rfl _ _ rfl _ _ _ K rfl rfl rfl (by omega) w.heap.size B.out.size ?_; intro w3 hO hb)
    replace R := hide (R.out.then_ hb)
    replace R1 := hide (show Nn w3 w3.heap.size x1 (ch (N - 0) (K - ([] : List Nat).length)) from R1.out.then_ hb)
    replace B := hide (Below.then_ B.out hb)
    replace hO := hide (show OwnI w3 w.heap.size _ (zsI ([] : List Nat)) from hO)
    clear hb
    go_wp2
    go_loopw [2, 8, 10, 11] (fun q p s i wr => ∃ (f j c' rv : Nat) (us : List Nat) (A' : Option Addr) (x y : Nc), f ≤ N ∧ j ≤ K ∧ j ≤ c' ∧ c' ≤ 9223372036854775807 ∧ q = .slice y.A y.n y.c ∧ p = .slice x.A x.n x.c ∧ s = .slice A' j c' ∧ i = .int .i64 f ∧
      Hid (us.length = j) ∧ Hid (rv < ch (N - f) (K - us.length)) ∧ Hid (us ++ urk N (N - f) f (K - us.length) rv = U) ∧ Hid (Nv wr wr.heap.size y rv) ∧ Hid (Nn wr wr.heap.size x (ch (N - f) (K - us.length))) ∧ Hid (OwnI wr w.heap.size (.slice A' j c') (zsI us)) ∧ Hid (Below w.heap.size w wr)) (fun _ _ _ i _ => N - (intOf i).toNat)
    case atStart => exact ⟨0, 0, K, r, [], _, x1, x, by omega, by omega, by omega, by omega, rfl, rfl, rfl, rfl, hide rfl, hrk, hide (by simpa using hU.out), R, R1, hO, B⟩
    case round =>
      obtain ⟨f, j, c', rv, us, A', x, y, hf, hj, hjc, hcc, rfl, rfl, rfl, rfl, hl, hlt, hsum, Ry, Rx, hOw, B2⟩ := hrel
      clear R1 B hO R
      by_cases hjK : j < K
      · obtain ⟨d, hd⟩ : ∃ d, N - f = d + 1 := ⟨N - f - 1, by
          have h1 := hlt.out
          by_cases hz : N - f = 0
          · rw [hz, ch_lt (by have := hl.out; omega)] at h1; omega
          · omega⟩
        obtain ⟨kk, hkk⟩ : ∃ kk, K - j = kk + 1 := ⟨K - j - 1, by omega⟩
        have hd2 : N - 1 - f = d := by omega
        replace Rx := hide (show Nn wr wr.heap.size x (ch (d + 1) (kk + 1)) by have h := Rx.out; rw [hl.out, hd, hkk] at h; exact h)
        replace hlt := hide (show rv < ch (d + 1) (kk + 1) by have h := hlt.out; rw [hl.out, hd, hkk] at h; exact h)
        replace hsum := hide (show us ++ urk N (d + 1) f (kk + 1) rv = U by have h := hsum.out; rw [hl.out, hd, hkk] at h; exact h)
        obtain ⟨cv2, hcv2⟩ : ∃ cv, cmpN rv (ch d kk) = cv := ⟨_, rfl⟩
        have hcv2h := hide hcv2
        have hdh := hide hd
        have hkkh := hide hkk
        have hd2h := hide hd2
        clear hd hkk hd2
        go_wp2_with fail
        refine (split_any (d := d) (k := kk) Rx.out (Nat.le_refl _) (by have := hdh.out; omega) (by have := hkkh.out; omega) (by have := hdh.out; omega) (by have := hkkh.out; omega)).mono ?_
        rintro e w3 ⟨xa, xb, rfl, Ra, Rb, hb⟩
        replace Ry := hide (Ry.out.then_ hb)
        replace hOw := hide (hOw.out.then_ hb)
        replace B2 := hide (Below.then_ B2.out hb)
        replace Ra := hide Ra
        replace Rb := hide Rb
        clear hb Rx
        go_wp2_with fail
        refine (cmp_c Ry.out (Ra.out.nv (ch_sm (by have := hdh.out; omega))) hcv2h.out).mono ?_
        rintro e w4 ⟨rfl, hb⟩
        replace Ry := hide (Ry.out.then_ hb)
        replace hOw := hide (hOw.out.then_ hb)
        replace B2 := hide (Below.then_ B2.out hb)
        replace Ra := hide (Ra.out.then_ hb)
        replace Rb := hide (Rb.out.then_ hb)
        clear hb
        by_cases hlow : rv < ch d kk
        · have hneg : cv2 < 0 := by rw [← hcv2, cmpN_neg_iff]; exact hlow
          have d1 : decide (cv2 < 0) = true := by simpa using hneg
          have hs2 := hide (show (us ++ [f]) ++ urk N d (f + 1) kk rv = U by have h := hsum.out; rw [urk_yes (by rw [hd2h.out]; exact hlow)] at h; rw [← h]; simp)
          have hlow' := hide hlow
          clear hcv2 hneg hlow hsum hlt Rb
          go_wp2_with (at_builtin; refine wpList_append_int rfl (.tmp 49) (.tmp 51) rfl w.heap.size _ _ rfl (hOw.out.alloc _) ⟨w4.heap.size, 0, none⟩ 1 (f : Int) rfl (by simp) ⟨by omega, by omega⟩ (by rw [zs_length, hl.out]; omega) (by have := B2.out.size; simp; omega) ?_; intro v' w5 hO5 hg5)
          replace Ry := hide (Ry.out.push hOw.out hg5)
          replace Ra := hide (Ra.out.push hOw.out hg5)
          replace B2 := hide (hOw.out.pushed hg5 B2.out B2.out.size)
          rw [← zs_append] at hO5
          obtain ⟨A5, c5, rfl, hl5, hc5⟩ := hO5.form
          rw [zs_length] at hl5
          have hlen5 : (us ++ [f]).length = j + 1 := by simp [hl.out]
          rw [zs_length, hlen5] at hO5
          rw [hlen5] at hl5
          rw [zs_length, hlen5]
          replace hO5 := hide hO5
          have hl' := hide hlen5
          have e1 := hide (show N - (f + 1) = d by have := hdh.out; omega)
          have e2 := hide (show K - (j + 1) = kk by have := hkkh.out; omega)
          clear hlen5 hg5 hOw
          go_wp2
          go_roundw
          case rel => exact ⟨f + 1, j + 1, c5, rv, us ++ [f], A5, xa, y, by have := hdh.out; omega, by omega, hl5, hc5, rfl, rfl, by go_num, by go_num, hl', hide (by rw [hl'.out, e1.out, e2.out]; exact hlow'.out), hide (by rw [hl'.out, e1.out, e2.out]; exact hs2.out), Ry, hide (by rw [hl'.out, e1.out, e2.out]; exact Ra.out), hO5, B2⟩
          case measure => simp [intOf]; have := hdh.out; omega
        · have hneg : ¬ cv2 < 0 := by rw [← hcv2, cmpN_neg_iff]; exact hlow
          have d1 : decide (cv2 < 0) = false := by simpa using hneg
          have hs2 := hide (show us ++ urk N d (f + 1) (kk + 1) (rv - ch d kk) = U by have h := hsum.out; rw [urk_not (by rw [hd2h.out]; exact hlow), hd2h.out] at h; exact h)
          have hlt2 := hide (show rv - ch d kk < ch d (kk + 1) by have h := hlt.out; rw [ch_succ] at h; omega)
          have hlow' := hide (show ch d kk ≤ rv by omega)
          have hsm := hide (show Sm (rv - ch d kk) from Sm.mono (Nat.le_of_lt hlt2.out) (ch_sm (by have := hdh.out; omega)))
          have e1 := hide (show N - (f + 1) = d by have := hdh.out; omega)
          clear hcv2 hneg hlow hsum hlt
          go_wp2_with fail
          refine (sub_c Ry.out (Ra.out.nv (ch_sm (by have := hdh.out; omega))) (Nat.le_refl _) hlow'.out rfl).mono ?_
          rintro e w5 ⟨x5, rfl, R5, hb⟩
          replace hOw := hide (hOw.out.then_ hb)
          replace B2 := hide (Below.then_ B2.out hb)
          replace Rb := hide (Rb.out.then_ hb)
          replace R5 := hide (R5.nv hsm.out)
          clear hb Ra Ry
          go_wp2
          go_roundw
          case rel => exact ⟨f + 1, j, c', rv - ch d kk, us, A', xb, x5, by have := hdh.out; omega, by omega, hjc, hcc, rfl, rfl, rfl, by go_num, hl, hide (by rw [hl.out, e1.out, hkkh.out]; exact hlt2.out), hide (by rw [hl.out, e1.out, hkkh.out]; exact hs2.out), R5, hide (by rw [hl.out, e1.out, hkkh.out]; exact Rb.out), hOw, B2⟩
          case measure => simp [intOf]; have := hdh.out; omega
      · obtain rfl : j = K := by omega
        have hus := hide (show us = U by have h := hsum.out; rw [hl.out, Nat.sub_self, urk_nil, List.append_nil] at h; exact h)
        obtain ⟨A6, n6, c6, e6, hR6⟩ := hOw.out.rd (by rw [zs_length, hl.out]; omega)
        simp only [Value.slice.injEq] at e6
        obtain ⟨rfl, rfl, rfl⟩ := e6
        replace hR6 := hide hR6
        go_wp2
        go_ret2
        exact ⟨_, _, _, rfl, by rw [← hus.out]; exact hR6.out, B2.out⟩
  · have hun := un_no hr
    rw [hun.1, hun.2]
    have hneg : 0 ≤ cv := by rw [← hcv, cmpN_ge_iff]; omega
    have d0 : decide ((0 : Int) ≤ cv) = true := by simpa using hneg
    replace hcv := hide hcv
    clear hun hneg hr
    go_enter Try.func23, Try.ntmps23
    go_wp2_with fail
    refine (choose_any hi.out.1 hi.out.2).mono ?_
    rintro e w1 ⟨x1, rfl, R1, hb⟩
    replace R := hide (R.out.then_ hb)
    replace B := hide (Below.then_ B.out hb)
    replace R1 := hide R1
    clear hb
    go_wp2_with fail
    refine (cmp_c R.out (R1.out.nv (chI_sm _ _)) hcv.out).mono ?_
    rintro e w2 ⟨rfl, hb⟩
    replace B := hide (Below.then_ B.out hb)
    clear hb
    go_wp2
    go_ret2
    exact lb_nil rfl B.out
end Go.Proofs.Ytdakfpapigieiaa
