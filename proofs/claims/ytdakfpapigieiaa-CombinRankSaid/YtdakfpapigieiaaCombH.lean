/-
  The reference's Rank.
-/
import Derived.Test.YtdakfpapigieiaaCombG
namespace Go.Proofs.Ytdakfpapigieiaa
open Go.RowKit

theorem drop_at : ∀ {ys : List Nat} {i : Nat}, i < ys.length → ∃ y t, ys.drop i = y :: t ∧ li (zsI ys) i = (y : Int) ∧ ys.drop (i + 1) = t
  | [], i, h => by simp at h
  | y :: t, 0, _ => ⟨y, t, rfl, rfl, rfl⟩
  | y :: t, i + 1, h => by
    obtain ⟨a, b, h1, h2, h3⟩ := drop_at (ys := t) (i := i) (by simpa using h)
    exact ⟨a, b, h1, by rw [zs_cons, li_cons_succ]; exact h2, h3⟩
set_option maxHeartbeats 8000000 in
set_option maxRecDepth 100000 in
theorem rrank_any {w : World} {Bd m c : Nat} {A : Option Addr} {xs : List Int} {n : Int} (hx : RdI w Bd A m c xs) (hB : Bd ≤ w.heap.size) : Calls Try.prog 19 #[.int .i64 n, .slice A m c] w (RetCB w (rkI n xs) (sbsB n xs)) := by
  have hcap := hx.cap
  have hbig := hx.big
  have hcb := hx.cbig
  have HX := hide (hx.more hB)
  have B := hide (Below.refl w.heap.size w)
  have hl := hide hx.len
  clear hx hB
  obtain ⟨ok, hok⟩ : ∃ b, sbsB n xs = b := ⟨_, rfl⟩
  cases ok with
  | false =>
    rw [sbs_no hok]
    replace hok := hide hok
    go_enter Try.func19, Try.ntmps19
    go_wp2_with fail
    refine (rsubset_any (n := n) HX.out (Nat.le_refl _)).mono ?_
    rw [hok.out]
    rintro e w1 ⟨rfl, hb⟩
    replace B := hide (Below.then_ B.out hb)
    clear hb
    go_wp2
    go_ret2
    rw [hok.out]
    exact cb_nil rfl B.out
  | true =>
    obtain ⟨N, ys, rfl, hN, hxs, hris, hrk⟩ := sbs_yes hok
    obtain ⟨R0, hR0⟩ : ∃ R0, rk N 0 ys = R0 := ⟨_, rfl⟩
    have hR0n := hide hR0
    rw [hR0] at hrk
    rw [hrk]
    have hyl : ys.length = m := by have := hl.out; rw [hxs, zs_length] at this; exact this
    have hmN : m ≤ N := by rw [← hyl]; exact hris.length_le (by omega)
    have HY := hide (show RdI w w.heap.size A m c (zsI ys) by rw [← hxs]; exact HX.out)
    replace hok := hide hok
    have hyl' := hide hyl
    have hRs := hide (show Sm R0 by rw [← hR0n.out]; exact rk_sm hris (by omega) hN)
    replace hris := hide hris
    clear hrk hxs hR0 hyl
    go_enter Try.func19, Try.ntmps19
    go_wp2_with fail
    refine (rsubset_any (n := (N : Int)) HX.out (Nat.le_refl _)).mono ?_
    rw [hok.out]
    rintro e w1 ⟨rfl, hb⟩
    replace B := hide (Below.then_ B.out hb)
    clear hb
    go_wp2
    go_loopw [6, 7, 8] (fun r s i wr => ∃ (i' f rv : Nat) (y : Nc), i' ≤ m ∧ f ≤ N ∧ r = .slice y.A y.n y.c ∧ s = .int .i64 f ∧ i = .int .i64 i' ∧ Hid (Ris N f (ys.drop i')) ∧ Hid (rv + rk N f (ys.drop i') = R0) ∧
      Hid (Nn wr wr.heap.size y rv) ∧ Hid (Below w.heap.size w wr)) (fun _ _ i _ => m - (intOf i).toNat)
    case atStart => exact ⟨0, 0, 0, ⟨none, 0, 0⟩, by omega, by omega, rfl, rfl, rfl, hris, hide (by rw [Nat.zero_add]; exact hR0n.out), hide (Nn.zero _ _ (by omega) _), B⟩
    case round =>
      obtain ⟨i', f, rv, y, hi', hf, rfl, rfl, rfl, hrl, hsum, Ry, B2⟩ := hrel
      clear B
      by_cases him : i' < m
      · obtain ⟨q, t, hdr, hliq, hdt⟩ := drop_at (ys := ys) (i := i') (by have := hyl'.out; omega)
        rw [hdr] at hrl hsum
        have htl : t.length = m - 1 - i' := by
          have h1 : (ys.drop i').length = ys.length - i' := List.length_drop
          rw [hdr, List.length_cons, hyl'.out] at h1
          omega
        have hfq : f ≤ q := hrl.out.1
        have hqN : q < N := hrl.out.2.1
        have hrt := hide hrl.out.2.2
        have hdth := hide hdt
        have htlh := hide htl
        have hliqh := hide hliq
        have hlen := hide (show ∀ v, v ≤ q → Ris N v (q :: t) from fun v hv => ⟨hv, hqN, hrt.out⟩)
        obtain ⟨wo, rfl⟩ : ∃ wo : World, wo = wr := ⟨_, rfl⟩
        clear hdr hliq hdt htl hrl
        go_wp2
        go_loopw [6, 9] (fun r s wr => ∃ (v rv : Nat) (y : Nc), v ≤ q ∧ r = .slice y.A y.n y.c ∧ s = .int .i64 v ∧ Hid (rv + rk N v (q :: t) = R0) ∧ Hid (Nn wr wr.heap.size y rv) ∧ Hid (Below w.heap.size w wr)) (fun _ s _ => q - (intOf s).toNat)
        case atStart => exact ⟨f, rv, y, hfq, rfl, rfl, hsum, Ry, B2⟩
        case round =>
          obtain ⟨v, rv, y, hvq, rfl, rfl, hsum2, Ry2, B3⟩ := hrel
          clear hsum Ry B2
          obtain ⟨ad, rfl, hadb, hca⟩ := (HY.out.then_ B3.out).at_ him
          rw [hliqh.out] at hca
          have hi64 : (i' : Int) < (m : Int) := by omega
          by_cases hlt : v < q
          · have hll := (hlen.out v hvq).length_le (by omega)
            rw [List.length_cons, htlh.out] at hll
            obtain ⟨d, hd⟩ : ∃ d, d = N - 1 - v := ⟨_, rfl⟩
            obtain ⟨kk, hkk⟩ : ∃ kk, kk = m - 1 - i' := ⟨_, rfl⟩
            have hs2 := hide (show rv + ch d kk + rk N (v + 1) (q :: t) = R0 by have h := hsum2.out; rw [rk_there hlt, htlh.out, ← hd, ← hkk] at h; omega)
            have hsm := hide (show Sm rv from Sm.mono (b := R0) (by have := hs2.out; omega) hRs.out)
            have hdh := hide hd
            have hkkh := hide hkk
            clear hd hkk
            go_wp2_with fail
            refine (rchoose_nat (N := d) (K := kk) (by have := hdh.out; omega) (by have := hkkh.out; omega) (by have := hdh.out; omega) (by have := hdh.out; have := hkkh.out; omega) rfl).mono ?_
            rintro e w3 ⟨x3, rfl, R3, hb⟩
            replace Ry2 := hide (Ry2.out.then_ hb)
            replace B3 := hide (Below.then_ B3.out hb)
            replace R3 := hide R3
            clear hb
            go_wp2_with fail
            refine (radd_c (Ry2.out.nv hsm.out) (R3.out.nv (ch_sm (by have := hdh.out; omega))) (Nat.le_refl _) rfl).mono ?_
            rintro e w4 ⟨x4, rfl, R4, hb⟩
            replace B3 := hide (Below.then_ B3.out hb)
            replace R4 := hide R4
            clear hb R3 Ry2
            go_wp2
            go_roundw
            case rel => exact ⟨v + 1, rv + ch d kk, x4, by omega, rfl, by go_num, hs2, R4, B3⟩
            case measure => simp [intOf]; omega
          · obtain rfl : v = q := by omega
            have hs2 := hide (show rv + rk N (v + 1) (ys.drop (i' + 1)) = R0 by have h := hsum2.out; rw [rk_here] at h; rw [hdth.out]; exact h)
            have hr2 := hide (show Ris N (v + 1) (ys.drop (i' + 1)) by rw [hdth.out]; exact hrt.out)
            go_wp2
            go_roundw
            case rel => exact ⟨i' + 1, v + 1, rv, y, by omega, by omega, rfl, by go_num, by go_num, hr2, hs2, Ry2, B3⟩
            case measure => simp [intOf]; omega
      · obtain rfl : i' = m := by omega
        replace Ry := hide (show Nn wr wr.heap.size y R0 by
          have h := hsum.out
          rw [← hyl'.out, List.drop_length, rk, Nat.add_zero] at h
          rw [← h]; exact Ry.out)
        go_wp2
        go_ret2
        exact ⟨y, by rw [hok.out]; rfl, Ry.out, B2.out⟩
end Go.Proofs.Ytdakfpapigieiaa
