/-
  split; Rank.
-/
import Derived.Test.YtdakfpapigieiaaCombE
namespace Go.Proofs.Ytdakfpapigieiaa
open Go.RowKit

def zsI (ys : List Nat) : List Int := ys.map fun y : Nat => (y : Int)
theorem zs_length (ys : List Nat) : (zsI ys).length = ys.length := by simp [zsI]
theorem zs_cons (y : Nat) (ys : List Nat) : zsI (y :: ys) = (y : Int) :: zsI ys := rfl
theorem ns_cons (z : Int) (l : List Int) : nsI (z :: l) = z.toNat :: nsI l := rfl
theorem ns_length (xs : List Int) : (nsI xs).length = xs.length := by simp [nsI]
theorem zs_ns : ∀ {xs : List Int}, (∀ j, j < xs.length → 0 ≤ li xs j) → zsI (nsI xs) = xs
  | [], _ => rfl
  | z :: l, h => by
    have h0 : 0 ≤ z := h 0 (by simp)
    rw [ns_cons, zs_cons, zs_ns (fun j hj => h (j + 1) (by simpa using hj)), Int.toNat_of_nonneg h0]
theorem ns_zs : ∀ ys : List Nat, nsI (zsI ys) = ys
  | [] => rfl
  | y :: l => by rw [zs_cons, ns_cons, ns_zs l]; rfl
/-- by index, and by recursion -/
theorem ris_of : ∀ {xs : List Int} {N f : Nat}, (∀ j, j < xs.length → (f : Int) ≤ li xs j ∧ li xs j < (N : Int) ∧ (0 < j → li xs (j - 1) < li xs j)) → Ris N f (nsI xs)
  | [], _, _, _ => trivial
  | z :: l, N, f, h => by
    have h0 := h 0 (by simp)
    simp only [li_cons_zero] at h0
    refine ⟨by omega, by omega, ris_of fun j hj => ?_⟩
    have h1 := h (j + 1) (by simpa using hj)
    simp only [li_cons_succ, Nat.add_sub_cancel] at h1
    have key : ∀ i, i < l.length → z < li l i ∧ z.toNat + 1 ≤ li l i := by
      intro i
      induction i with
      | zero =>
        intro hi
        have h2 := h 1 (by simp only [List.length_cons]; omega)
        have h3 := h2.2.2 (by omega)
        simp only [Nat.sub_self, li_cons_zero, li_cons_succ] at h3
        exact ⟨h3, by omega⟩
      | succ i ih =>
        intro hi
        have h2 := (h (i + 2) (by simp only [List.length_cons]; omega)).2.2 (by omega)
        simp only [show i + 2 - 1 = i + 1 by omega, li_cons_succ] at h2
        have := ih (by omega)
        exact ⟨by omega, by omega⟩
    refine ⟨by have := (key j hj).2; omega, h1.2.1, fun hj0 => ?_⟩
    have h4 := h1.2.2 (by omega)
    obtain ⟨i, rfl⟩ : ∃ i, j = i + 1 := ⟨j - 1, by omega⟩
    simpa [li_cons_succ] using h4
theorem SubI.ris {N : Nat} {xs : List Int} (h : SubI (N : Int) xs xs.length) : Ris N 0 (nsI xs) := ris_of fun j hj => by
  have := h j hj
  exact ⟨by omega, this.2.1, this.2.2⟩
theorem SubI.zs {n : Int} {xs : List Int} (h : SubI n xs xs.length) : zsI (nsI xs) = xs := zs_ns fun j hj => (h j hj).1
noncomputable def rkI (n : Int) (xs : List Int) : Nat := if sbsB n xs = true then rk n.toNat 0 (nsI xs) else 0
/-- what a subset is -/
theorem sbs_yes {n : Int} {xs : List Int} (h : sbsB n xs = true) : ∃ (N : Nat) (ys : List Nat), n = (N : Int) ∧ N ≤ 200 ∧ xs = zsI ys ∧ Ris N 0 ys ∧ rkI n xs = rk N 0 ys := by
  have h2 := h
  simp only [sbsB, Bool.and_eq_true, okI, decide_eq_true_eq, risB] at h2
  obtain ⟨h3, h4⟩ := h2
  have h4' : SubI n xs xs.length := by
    simpa using h4
  obtain ⟨N, rfl⟩ : ∃ N : Nat, n = (N : Int) := ⟨n.toNat, by omega⟩
  refine ⟨N, nsI xs, rfl, by omega, h4'.zs.symm, h4'.ris, ?_⟩
  rw [rkI, if_pos h]
  rfl
theorem sbs_no {n : Int} {xs : List Int} (h : sbsB n xs = false) : rkI n xs = 0 := by rw [rkI, if_neg (by rw [h]; simp)]
theorem RdI.tail {w : World} {Bd n c : Nat} {ad : Addr} {y : Int} {l : List Int} (h : RdI w Bd (some ad) (n + 1) c (y :: l)) : RdI w Bd (some (ad.add 1)) n (c - 1) l := by
  obtain ⟨ad', e, hb, hc⟩ := h.cells (by omega)
  simp only [Option.some.injEq] at e
  subst e
  refine ⟨by have := h.len; simpa using this, fun j => h.wf (j + 1), by have := h.cap; omega, by have := h.big; omega, by have := h.cbig; omega, fun _ => ⟨_, rfl, by rw [block_add]; exact hb, fun j hj => ?_⟩⟩
  rw [add_add_, Nat.add_comm, hc (j + 1) (by omega), li_cons_succ]
theorem RdI.tail' {w : World} {Bd n c : Nat} {ad : Addr} {y : Int} {l : List Int} (h : RdI w Bd (some ad) (n + 1) c (y :: l)) : RdI w Bd (if c = 1 then some ad else some ⟨ad.block, ad.off + 1, none⟩) n (c - 1) l := by
  by_cases hc : c = 1
  · have h1 := h.cap
    obtain rfl : n = 0 := by omega
    obtain rfl : l = [] := List.eq_nil_of_length_eq_zero (by have := h.len; simpa using this)
    exact RdI.empty _ _ _ (by have := h.cbig; omega)
  · rw [if_neg hc]
    exact h.tail
theorem run_succ' (n k f c : Nat) : run n k f (c + 1) = ch (n - 1 - f) k + run n k (f + 1) c := run_shift c
/-- one number further: it is the first one, or not -/
theorem rk_here {N x : Nat} {t : List Nat} : rk N x (x :: t) = rk N (x + 1) t := by rw [rk, Nat.sub_self, run, Nat.zero_add]
theorem rk_there {N x y : Nat} {t : List Nat} (h : x < y) : rk N x (y :: t) = ch (N - 1 - x) t.length + rk N (x + 1) (y :: t) := by
  rw [rk, rk, show y - x = (y - (x + 1)) + 1 by omega, run_succ', Nat.add_assoc]

set_option maxHeartbeats 1000000 in
theorem split_any {w : World} {Bd : Nat} {x : Nc} {d k : Nat} (hx : Nn w Bd x (ch (d + 1) (k + 1))) (hB : Bd ≤ w.heap.size) {p q : Int} (hp : p = ((d + 1 : Nat) : Int)) (hq : q = ((k + 1 : Nat) : Int)) (hd : d < 200) (hk : k < 1000) :
    Calls Try.prog 38 #[.slice x.A x.n x.c, .int .i64 p, .int .i64 q] w (fun e w' => ∃ a b : Nc, e = .returned (.tuple #[.slice a.A a.n a.c, .slice b.A b.n b.c]) ∧ Nn w' w'.heap.size a (ch d k) ∧ Nn w' w'.heap.size b (ch d (k + 1)) ∧ Below w.heap.size w w') := by
  have R := hide (hx.upto (Below.refl _ _) hB)
  have B := hide (Below.refl w.heap.size w)
  replace hp := hide hp
  replace hq := hide hq
  clear hx hB
  go_enter Try.func38, Try.ntmps38
  go_wp2_with fail
  refine (share_any (a := k + 1) (b := d + 1) R.out (Nat.le_refl _) hq.out hp.out (by omega) (by omega) (by omega) (ch_sm (by omega)) (step_sm (by omega) (by omega)) ch_split_quo).mono ?_
  rintro e w1 ⟨x1, rfl, R1, hb⟩
  replace R := hide (R.out.then_ hb)
  replace B := hide (Below.then_ B.out hb)
  replace R1 := hide R1
  clear hb
  go_wp2_with fail
  refine (sub_c (r := ch d (k + 1)) (R.out.nv (ch_sm (by omega))) (R1.out.nv (ch_sm (by omega))) (Nat.le_refl _) (by rw [ch_succ]; omega) (by rw [ch_succ]; omega)).mono ?_
  rintro e w2 ⟨x2, rfl, R2, hb⟩
  replace R1 := hide (R1.out.then_ hb)
  replace B := hide (Below.then_ B.out hb)
  replace R2 := hide R2
  clear hb
  go_wp2
  go_ret2
  exact ⟨x1, x2, rfl, R1.out, R2.out, B.out⟩
set_option maxHeartbeats 8000000 in
set_option maxRecDepth 100000 in
theorem rank_any {w : World} {Bd m c : Nat} {A : Option Addr} {xs : List Int} {n : Int} (hx : RdI w Bd A m c xs) (hB : Bd ≤ w.heap.size) : Calls Try.prog 18 #[.int .i64 n, .slice A m c] w (RetCB w (rkI n xs) (sbsB n xs)) := by
  have hcap := hx.cap
  have hbig := hx.big
  have hcb := hx.cbig
  have HX := hide (hx.more hB)
  have B := hide (Below.refl w.heap.size w)
  have hl := hide hx.len
  clear hx hB
  obtain ⟨ok, hok⟩ : ∃ b, sbsB n xs = b := ⟨_, rfl⟩
  cases ok with
  | false =>
    rw [sbs_no hok]
    replace hok := hide hok
    go_enter Try.func18, Try.ntmps18
    go_wp2_with fail
    refine (issubset_any (n := n) HX.out (Nat.le_refl _)).mono ?_
    rw [hok.out]
    rintro e w1 ⟨rfl, hb⟩
    replace B := hide (Below.then_ B.out hb)
    clear hb
    go_wp2
    go_ret2
    rw [hok.out]
    exact cb_nil rfl B.out
  | true =>
    obtain ⟨N, ys, rfl, hN, hxs, hris, hrk⟩ := sbs_yes hok
    obtain ⟨R0, hR0⟩ : ∃ R0, rk N 0 ys = R0 := ⟨_, rfl⟩
    have hR0n := hide hR0
    rw [hR0] at hrk
    rw [hrk]
    have hyl : ys.length = m := by have := hl.out; rw [hxs, zs_length] at this; exact this
    have hmN : m ≤ N := by rw [← hyl]; exact hris.length_le (by omega)
    have HY := hide (show RdI w w.heap.size A m c (zsI ys) by rw [← hxs]; exact HX.out)
    replace hok := hide hok
    have hyl' := hide hyl
    have hRs := hide (show Sm R0 by rw [← hR0n.out]; exact rk_sm hris (by omega) hN)
    replace hris := hide hris
    clear hrk hxs hR0 hyl
    go_enter Try.func18, Try.ntmps18
    go_wp2_with fail
    refine (issubset_any (n := (N : Int)) HX.out (Nat.le_refl _)).mono ?_
    rw [hok.out]
    rintro e w1 ⟨rfl, hb⟩
    replace B := hide (Below.then_ B.out hb)
    replace HY := hide (HY.out.then_ hb)
    clear hb
    go_wp2_with fail
    refine (choose_nat (N := N) (K := m) rfl rfl hN hmN rfl).mono ?_
    rintro e w2 ⟨x1, rfl, R1, hb⟩
    replace B := hide (Below.then_ B.out hb)
    replace HY := hide (HY.out.then_ hb)
    replace R1 := hide (show Nn w2 w2.heap.size x1 (ch (N - 0) ys.length) by rw [hyl'.out]; exact R1)
    clear hb
    go_wp2
    go_loopw [6, 7, 8, 10] (fun r s p i wr => ∃ (k rv m' c' : Nat) (l : List Nat) (A' : Option Addr) (x y : Nc), k ≤ N ∧ m' ≤ N ∧ m' ≤ c' ∧ c' ≤ 9223372036854775807 ∧ r = .slice y.A y.n y.c ∧ s = .slice A' m' c' ∧ p = .slice x.A x.n x.c ∧ i = .int .i64 k ∧ Hid (l.length = m') ∧ Hid (Ris N k l) ∧ Hid (rv + rk N k l = R0) ∧
      Hid (Nn wr wr.heap.size y rv) ∧ Hid (RdI wr wr.heap.size A' m' c' (zsI l)) ∧ Hid (Nn wr wr.heap.size x (ch (N - k) l.length)) ∧ Hid (Below w.heap.size w wr)) (fun _ _ _ i _ => N - (intOf i).toNat)
    case atStart => exact ⟨0, 0, m, c, ys, A, x1, ⟨none, 0, 0⟩, by omega, by omega, by omega, by omega, rfl, rfl, rfl, rfl, hyl', hris, hide (by rw [Nat.zero_add]; exact hR0n.out), hide (Nn.zero _ _ (by omega) _), HY, R1, B⟩
    case round =>
      obtain ⟨k, rv, m', c', l, A', x, y, hk, hmk, hmc, hcc, rfl, rfl, rfl, rfl, hll, hrl, hsum, Ry, HL, Rx, B2⟩ := hrel
      clear R1 B HY
      by_cases hm0 : m' = 0
      · subst hm0
        obtain rfl : l = [] := List.eq_nil_of_length_eq_zero hll.out
        replace Ry := hide (show Nn wr wr.heap.size y R0 by have h := hsum.out; rw [rk, Nat.add_zero] at h; rw [← h]; exact Ry.out)
        go_wp2
        go_ret2
        exact ⟨y, by rw [hok.out]; rfl, Ry.out, B2.out⟩
      · obtain ⟨m1, rfl⟩ : ∃ j, m' = j + 1 := ⟨m' - 1, by omega⟩
        obtain ⟨q, t, rfl⟩ : ∃ q t, l = q :: t := by
          cases l with
          | nil => exact absurd hll.out (by simp)
          | cons q t => exact ⟨q, t, rfl⟩
        have hkN : k < N := by have h1 := hrl.out.1; have h2 := hrl.out.2.1; omega
        have hkq : k ≤ q := hrl.out.1
        have htl := hide (show t.length = m1 by have := hll.out; simpa using this)
        obtain ⟨d, hd⟩ : ∃ d, N - k = d + 1 := ⟨N - k - 1, by omega⟩
        replace Rx := hide (show Nn wr wr.heap.size x (ch (d + 1) (m1 + 1)) by have h := Rx.out; rw [hd, hll.out] at h; exact h)
        clear hll
        go_wp2_with fail
        refine (split_any (d := d) (k := m1) Rx.out (Nat.le_refl _) (by omega) (by omega) (by omega) (by omega)).mono ?_
        rintro e w3 ⟨xa, xb, rfl, Ra, Rb, hb⟩
        replace Ry := hide (Ry.out.then_ hb)
        replace HL := hide (HL.out.then_ hb)
        replace B2 := hide (Below.then_ B2.out hb)
        replace Ra := hide Ra
        replace Rb := hide Rb
        clear hb Rx
        obtain ⟨ad, rfl, hadb, hca⟩ := HL.out.at_ (k := 0) (by omega)
        replace hca : w3.cell? ad = some (.int .i64 (q : Int)) := by rw [add_zero_] at hca; exact hca
        have h01 : (0 : Int) < (m1 : Int) + 1 := by omega
        have h11 : (1 : Int) ≤ (m1 : Int) + 1 := by omega
        by_cases hq : q = k
        · subst hq
          have HT := hide (show RdI w3 w3.heap.size (if c' = 1 then some ad else some ⟨ad.block, ad.off + 1, none⟩) m1 (c' - 1) (zsI t) from RdI.tail' (show RdI w3 w3.heap.size (some ad) (m1 + 1) c' ((q : Int) :: zsI t) from HL.out))
          have hs2 := hide (show rv + rk N (q + 1) t = R0 by have h := hsum.out; rw [rk_here] at h; exact h)
          replace Ra := hide (show Nn w3 w3.heap.size xa (ch (N - (q + 1)) t.length) by have h := Ra.out; rw [htl.out, show N - (q + 1) = d by omega]; exact h)
          have hrt := hide (show Ris N (q + 1) t from hrl.out.2.2)
          clear hrl hsum HL Rb
          go_wp2_with fail
          go_quiet (fail)
          have hb := below_drewN (Below.refl w3.heap.size w3) nq
          replace Ry := hide (Ry.out.then_ hb)
          replace HT := hide (HT.out.then_ hb)
          replace Ra := hide (Ra.out.then_ hb)
          replace B2 := hide (Below.then_ B2.out hb)
          clear hb
          go_wp2
          go_roundw
          case rel => exact ⟨q + 1, rv, m1, c' - 1, t, _, xa, y, by omega, by omega, by omega, by omega, rfl, rfl, rfl, by go_num, htl, hrt, hs2, Ry, HT, Ra, B2⟩
          case measure => simp [intOf]; omega
        · have hs2 := hide (show (rv + ch d m1) + rk N (k + 1) (q :: t) = R0 by have h := hsum.out; rw [rk_there (by omega : k < q), htl.out, show N - 1 - k = d by omega] at h; rw [← h]; omega)
          have hrt := hide (show Ris N (k + 1) (q :: t) from ⟨by omega, hrl.out.2.1, hrl.out.2.2⟩)
          replace Rb := hide (show Nn w3 w3.heap.size xb (ch (N - (k + 1)) (q :: t).length) by have h := Rb.out; rw [List.length_cons, htl.out, show N - (k + 1) = d by omega]; exact h)
          have hll2 := hide (show (q :: t).length = m1 + 1 by rw [List.length_cons, htl.out])
          have hsm := hide (show Sm rv from Sm.mono (b := R0) (by have := hs2.out; omega) hRs.out)
          have hne : ((q : Int) == (k : Int)) = false := by simp; omega
          clear hrl hsum
          go_wp2_with fail
          refine (add_c (Ry.out.nv hsm.out) (Ra.out.nv (ch_sm (by omega))) (Nat.le_refl _) rfl).mono ?_
          rintro e w4 ⟨x4, rfl, R4, hb⟩
          replace HL := hide (HL.out.then_ hb)
          replace Rb := hide (Rb.out.then_ hb)
          replace B2 := hide (Below.then_ B2.out hb)
          replace R4 := hide R4
          clear hb Ry Ra hca
          go_wp2
          go_roundw
          case rel => exact ⟨k + 1, rv + ch d m1, m1 + 1, c', q :: t, some ad, xb, x4, by omega, by omega, by omega, by omega, rfl, rfl, rfl, by go_num, hll2, hrt, hs2, R4, HL, Rb, B2⟩
          case measure => simp [intOf]; omega
end Go.Proofs.Ytdakfpapigieiaa
