/-
  ExactEqual.
-/
import Derived.Test.YtdihgmbldnekhaaExch7
import Derived.Test.YtdihgmbldnekhaaExTk
import Derived.Test.YtdihgmbldnekhaaSeq
import Derived.Deep.RegionWith
import Derived.Deep.QuietTactic
import Derived.BigQuiet
namespace Go.Proofs.Ytdihgmbldnekhaa
open Go.RowKit

theorem ql_const (n : Nat) (q : Rat) : ql n (fun _ => q) = List.replicate n q := by
  unfold ql
  rw [List.map_const', List.length_range]
theorem bin_ql (n : Nat) (q : Rat) : bin n q = trl (ql n fun _ => q) := funext fun k => by rw [ql_const, bin_trl]
theorem dprod_const (q : Rat) : ∀ n, dprod (ql n fun _ => q) = q.den ^ n
  | 0 => by simp [ql, dprod]
  | n + 1 => by rw [ql_succ, dprod_snoc, dprod_const q n, Nat.pow_succ]
theorem dprod_const_lt {q : Rat} {n : Nat} (h : q.den < pw 1048577) (hn : n ≤ 120) : dprod (ql n fun _ => q) < pw 126000000 := by
  rw [dprod_const]
  exact pow_pw h (by omega)
theorem eq_vld {n : Nat} {q : Rat} (h : shB q = true) (hn : n ≤ 120) : VldQ (n + 1) (trl (ql n fun _ => q)) := by
  refine ⟨by omega, fun i _ => trl_nonneg (ql_mem fun _ _ => h) i, ?_⟩
  have e := wt_one (ql n fun _ => q)
  unfold wt at e
  rw [ql_length] at e
  rw [← e]
  exact qs_congr fun i _ => (Rat.one_mul _).symm
theorem eq_mean (n : Nat) (q : Rat) : qs (mq 1 (trl (ql n fun _ => q))) (n + 1) = q * (n : Rat) := by
  have e := wt_mean (ql n fun _ => q)
  unfold wt at e
  rw [ql_length] at e
  rw [← tsum_rep, ← ql_const, ← e]
  exact qs_congr fun i _ => by
    simp only [mq]
    rw [if_neg (by decide)]
    grind
theorem eq_vrn (n : Nat) (q : Rat) : qs (mq 2 (trl (ql n fun _ => q))) (n + 1) - qs (mq 1 (trl (ql n fun _ => q))) (n + 1) * qs (mq 1 (trl (ql n fun _ => q))) (n + 1) = q * (n : Rat) * (1 - q) := by
  have e := wt_square (ql n fun _ => q)
  unfold wt at e
  rw [ql_length] at e
  have e2 : qs (mq 2 (trl (ql n fun _ => q))) (n + 1) = qs (fun k => (k : Rat) * (k : Rat) * trl (ql n fun _ => q) k) (n + 1) := qs_congr fun i _ => by
    simp only [mq]
    rw [if_pos trivial]
    grind
  rw [e2, e, eq_mean, ql_const, tvar_rep, tsum_rep]
  grind
theorem qv_nat (n : Nat) : qv false n 1 = (n : Rat) := by
  rw [qv_frac (by decide), show ((1 : Nat) : Rat) = 1 from rfl, Rat.div_def]
  grind
theorem part_n1 {n : Nat} (h : n < 4294967296) (w : World) : Calls Try.prog 18 #[.int .u32 (n : Int), .int .u32 1] w (RetR w 1 (n : Rat)) := part_l (a := n) (b := 1) rfl rfl h (by decide) (qv_nat n)
theorem part_11 (w : World) : Calls Try.prog 18 #[.int .u32 1, .int .u32 1] w (RetR w 1 1) := part_l (a := 1) (b := 1) rfl rfl (by decide) (by decide) (by decide +kernel)
theorem eq_in {n : Nat} {q : Rat} (h : shB q = true) (i : Nat) : In (dprod (ql n fun _ => q)) (trl (ql n fun _ => q) i) := in_trl (ql_mem fun _ _ => h) i
set_option maxHeartbeats 16000000 in
set_option maxRecDepth 100000 in
-- WALK
theorem equal_walk (hA : ∀ w : World, Calls Try.prog 11 #[] w (RetB w (.bool true))) {w : World} {n : Nat} (hn : n < 256) {x : Rc} {q : Rat} (hx : Rq w w.heap.size 1048576 x q) : Calls Try.prog 3 #[.int .u8 (n : Int), .agg #[.bool x.s, .slice x.A x.n x.c, .slice x.B x.m x.d]] w (RetB w (.bool true)) := by
  have wn := wrap64 (n := n) (by omega)
  have vn := wrap32 (n := n) (by omega)
  obtain ⟨W, hW⟩ : ∃ W, W = (w.alloc (.cells #[.bool x.s, .slice x.A x.n x.c, .slice x.B x.m x.d] 27)) := ⟨_, rfl⟩
  have hwW : Below w.heap.size w W := by rw [hW]; exact ((Below.refl _ _).alloc (Nat.le_refl _) _)
  have hWs : W.heap.size = w.heap.size + 1 := by rw [hW]; simp
  by_cases hlong : 121 ≤ n
  · have d0 : decide ((121 : Int) ≤ (n : Int)) = true := by simp; omega
    have B := hide hwW
    clear hlong hx hWs
    go_enter Try.func3, Try.ntmps3
    go_wp2_with fail
    rw [← hW]
    clear hW
    refine (hA _).mono ?_
    rintro e w1 ⟨rfl, hb⟩
    replace B := hide (Below.then_ B.out hb)
    clear hb
    go_wp2
    go_ret
    exact ⟨rfl, B.out⟩
  · have d0 : decide ((121 : Int) ≤ (n : Int)) = false := by simp; omega
    have hn120 : n ≤ 120 := by omega
    have b_p := hide (show Box3 W (w.heap.size) (.bool x.s) (.slice x.A x.n x.c) (.slice x.B x.m x.d) by rw [hW]; exact (Box3.new w _ _ _ rfl))
    have H_p := hide (hx.upto hwW (Nat.le_refl _))
    have B := hide hwW
    obtain ⟨g, hg⟩ : ∃ g, g = w.heap.size + 1 := ⟨_, rfl⟩
    have hgW := hide (show g = W.heap.size by rw [hg, hWs])
    have hsz := hide (show w.heap.size < g by omega)
    have hwh := hide hwW
    have hqs := hide (show q.den < pw 1048577 by
      obtain ⟨xs, ys, h1, h2, h3, h4, h5⟩ := hx
      have z := sz_rd h1 h2 h5 (i := 1048576) h3 h4
      exact (dig_len_le _ _).1 z.2)
    obtain ⟨sb, hsb⟩ : ∃ b, shB q = b := ⟨_, rfl⟩
    have hsbh := hide hsb
    clear hlong hx hwW hsb hWs
    go_enter Try.func3, Try.ntmps3
    go_wp2_with (at_make; rw [← hW]; refine wpList_make_rats rfl _ _ rfl _ _ _ _ n rfl rfl rfl rfl (by omega) W.heap.size 1048576 (Nat.le_refl _) ?_; intro w3 hO hb)
    clear hW
    replace B := hide (Below.then_ B.out hb)
    replace b_p := hide (b_p.out.keep hb)
    have H_0 := H_p
    have C := hide hb
    replace H_p := hide (H_p.out.then_ hb)
    replace hO := hide hO
    have hO2 := hO.out
    rw [← hgW.out] at hO2
    replace hO := hide hO2
    clear hO2
    simp only [← hg]
    clear hg
    go_wp2
    go_loopw [6] (fun iv wr => ∃ (i : Nat) (Z : Nat → Rc) (z : Nat → Rat), i ≤ n ∧ iv = .int .i64 i ∧ Hid (OwnQ (fun _ => false) wr g 1048576 (.slice (some ⟨g, 0, none⟩) n n) n Z z) ∧ Hid (∀ k, k < i → z k = q) ∧ Hid (Box3 wr (w.heap.size) (.bool x.s) (.slice x.A x.n x.c) (.slice x.B x.m x.d)) ∧ Hid (Rq wr wr.heap.size 1048576 x q) ∧ Hid (Below W.heap.size W wr) ∧ Hid (Below w.heap.size w wr)) (fun iv _ => n - (intOf iv).toNat)
    case atStart => exact ⟨0, _, _, Nat.zero_le _, rfl, hO, hide fun k hk => by omega, b_p, H_p, C, B⟩
    case round =>
      obtain ⟨i, Z, z, hi, rfl, hZ, hz, b_p, H_p, C, B⟩ := hrel
      by_cases hil : i < n
      · have hi64 : (i : Int) < (n : Int) := by omega
        obtain ⟨G0, G1, G2, G3, G4⟩ := hZ.out.all hil
        have G30 := G3 (i * 3) wr (Below.refl _ _)
        have G31 := G3 (i * 3 + 1) wr (Below.refl _ _)
        have G32 := G3 (i * 3 + 2) wr (Below.refl _ _)
        replace G0 := G0 wr (Below.refl _ _)
        replace G1 := G1 wr (Below.refl _ _)
        replace G2 := G2 wr (Below.refl _ _)
        replace G4 := G4 wr (Below.refl _ _)
        have c_p0 := b_p.out.at0 b_p.out.lt_size (Nat.le_refl _) wr (Below.refl _ _)
        have c_p1 := b_p.out.at1 b_p.out.lt_size (Nat.le_refl _) wr (Below.refl _ _)
        have c_p2 := b_p.out.at2 b_p.out.lt_size (Nat.le_refl _) wr (Below.refl _ _)
        have hS := hide (OwnQ.congr (mf := fun _ => false) (hZ.out.set (b := false) hil ⟨H_p.out, fun e => by cases e⟩) (fun _ _ => rfl) (fun _ _ => rfl) (fun _ _ h => by cases h))
        have C5 := hide (show Below W.heap.size W (set3 wr g i x) by
          have h := hZ.out.below (set3_grown wr g i x) (show Below g W wr by rw [hgW.out]; exact C.out) (by rw [hgW.out]; exact C.out.size)
          rw [hgW.out] at h ⊢
          exact h)
        have hz2 := hide (show ∀ k, k < i + 1 → upd z i q k = q from fun k hk => by
          by_cases e : k = i
          · rw [e, upd_same]
          · rw [upd_ne e]; exact hz.out k (by omega))
        have b5 := hide (show Box3 (set3 wr g i x) (w.heap.size) (.bool x.s) (.slice x.A x.n x.c) (.slice x.B x.m x.d) from (set3_grown wr g i x).block _ b_p.out.lt_size (fun e => by have := hsz.out; simp only [Option.some.injEq] at e; omega) |>.trans b_p.out)
        have B5 := hide (Below.then_ hwh.out C5.out)
        have H5 := hide (H_0.out.then_ C5.out)
        clear hZ hz C b_p H_p B G3
        go_wp2
        go_roundw
        case rel => exact ⟨i + 1, _, _, by omega, by go_num, hS, hz2, b5, H5, C5, B5⟩
        case measure => simp [intOf]; omega
      · obtain rfl : i = n := by omega
        obtain ⟨A_l, c_l, e6, hR6⟩ := hZ.out.rd
        simp only [Value.slice.injEq, true_and] at e6
        obtain ⟨rfl, rfl⟩ := e6
        have H_l := hide (LQ.congr (r := fun _ => q) hR6 fun k hk => hz.out k hk)
        clear hR6
        have hD := hide (fun (_ : i ≤ 120) => dprod_const_lt hqs.out hn120)
        clear hZ hz C hgW hwh H_0 hsz hO
        cases sb with
        | false =>
          have hbk := hide (biK_bad (n := (i : Int)) (q := q) (fun h => by have := hsbh.out; rw [shB_of h] at this; cases this))
          rcases Nat.eq_zero_or_pos i with rfl | h0
          · have htk := hide (trK_ok (n := 0) (q := fun _ => q) (fun k hk => by omega) (by omega))
            have c_p0 := b_p.out.at0 b_p.out.lt_size (Nat.le_refl _) _ (Below.refl _ _)
            have c_p1 := b_p.out.at1 b_p.out.lt_size (Nat.le_refl _) _ (Below.refl _ _)
            have c_p2 := b_p.out.at2 b_p.out.lt_size (Nat.le_refl _) _ (Below.refl _ _)
            go_wp2_with fail
            refine ((binom_p H_p.out (Nat.le_refl _) hbk.out).mono fun _ _ h => RetLE.fix h).mono ?_
            rintro e w1 ⟨A_d, c_d, Z_d, rfl, H_d, hb⟩
            replace H_l := hide (H_l.out.then_ hb)
            replace H_p := hide (H_p.out.then_ hb)
            replace b_p := hide (b_p.out.keep hb)
            replace B := hide (Below.then_ B.out hb)
            clear hb
            replace H_d := hide H_d
            rw [Int.toNat_natCast, bin_ql] at H_d
            clear c_p0 c_p1 c_p2
            go_wp2_with fail
            refine ((trials_k H_l.out (by decide) (by omega) hD.out (by decide) (Nat.le_refl _) htk.out).mono fun _ _ h => RetLE.fix h).mono ?_
            rintro e w2 ⟨A_c, c_c, Z_c, rfl, H_c, hb⟩
            replace H_l := hide (H_l.out.then_ hb)
            replace H_p := hide (H_p.out.then_ hb)
            replace H_d := hide (H_d.out.then_ hb)
            replace b_p := hide (b_p.out.keep hb)
            replace B := hide (Below.then_ B.out hb)
            clear hb
            replace H_c := hide H_c
            go_wp2_with fail
            refine (hA _).mono ?_
            rintro e w3 ⟨rfl, hb⟩
            replace H_l := hide (H_l.out.then_ hb)
            replace H_p := hide (H_p.out.then_ hb)
            replace H_d := hide (H_d.out.then_ hb)
            replace H_c := hide (H_c.out.then_ hb)
            replace b_p := hide (b_p.out.keep hb)
            replace B := hide (Below.then_ B.out hb)
            clear hb
            go_wp2
            go_ret
            exact ⟨rfl, B.out⟩
          · have htk := hide (trK_bad (q := fun _ => q) h0 hsbh.out)
            have c_p0 := b_p.out.at0 b_p.out.lt_size (Nat.le_refl _) _ (Below.refl _ _)
            have c_p1 := b_p.out.at1 b_p.out.lt_size (Nat.le_refl _) _ (Below.refl _ _)
            have c_p2 := b_p.out.at2 b_p.out.lt_size (Nat.le_refl _) _ (Below.refl _ _)
            go_wp2_with fail
            refine ((binom_p H_p.out (Nat.le_refl _) hbk.out).mono fun _ _ h => RetLE.fix h).mono ?_
            rintro e w1 ⟨A_d, c_d, Z_d, rfl, H_d, hb⟩
            replace H_l := hide (H_l.out.then_ hb)
            replace H_p := hide (H_p.out.then_ hb)
            replace b_p := hide (b_p.out.keep hb)
            replace B := hide (Below.then_ B.out hb)
            clear hb
            replace H_d := hide H_d
            rw [Int.toNat_natCast, bin_ql] at H_d
            clear c_p0 c_p1 c_p2
            go_wp2_with fail
            refine ((trials_k H_l.out (by decide) (by omega) hD.out (by decide) (Nat.le_refl _) htk.out).mono fun _ _ h => RetLE.fix h).mono ?_
            rintro e w2 ⟨A_c, c_c, Z_c, rfl, H_c, hb⟩
            replace H_l := hide (H_l.out.then_ hb)
            replace H_p := hide (H_p.out.then_ hb)
            replace H_d := hide (H_d.out.then_ hb)
            replace b_p := hide (b_p.out.keep hb)
            replace B := hide (Below.then_ B.out hb)
            clear hb
            replace H_c := hide H_c
            go_wp2_with fail
            refine (hA _).mono ?_
            rintro e w3 ⟨rfl, hb⟩
            replace H_l := hide (H_l.out.then_ hb)
            replace H_p := hide (H_p.out.then_ hb)
            replace H_d := hide (H_d.out.then_ hb)
            replace H_c := hide (H_c.out.then_ hb)
            replace b_p := hide (b_p.out.keep hb)
            replace B := hide (Below.then_ B.out hb)
            clear hb
            go_wp2
            go_ret
            exact ⟨rfl, B.out⟩
        | true =>
          have h01 : 0 ≤ q ∧ q ≤ 1 := by simpa [shB] using hsbh.out
          have hbk := hide (show biK (i : Int) q = (0, i + 1) from biK_ok h01 (by omega))
          have htk := hide (trK_ok (q := fun _ => q) (fun k _ => hsbh.out) (by omega : ¬ 121 ≤ i))
          have hv := hide (vl_yes (eq_vld hsbh.out hn120))
          have hin := hide (fun (k : Nat) (_ : k < i + 1) => eq_in (n := i) hsbh.out k)
          have hDD := hide (hD.out hn120)
          have hDP := hide (dprod_pos (ql i fun _ => q))
          have hmn := hide (eq_mean i q)
          have hvr := hide (eq_vrn i q)
          have hN1 := hide (show i + 1 ≤ 1000000 by omega)
          have hqn := hide (qv_nat i)
          have hi32 : i < 4294967296 := by omega
          clear h01
          have c_p0 := b_p.out.at0 b_p.out.lt_size (Nat.le_refl _) _ (Below.refl _ _)
          have c_p1 := b_p.out.at1 b_p.out.lt_size (Nat.le_refl _) _ (Below.refl _ _)
          have c_p2 := b_p.out.at2 b_p.out.lt_size (Nat.le_refl _) _ (Below.refl _ _)
          go_wp2_with fail
          refine ((binom_p H_p.out (Nat.le_refl _) hbk.out).mono fun _ _ h => RetLE.fix h).mono ?_
          rintro e w1 ⟨A_d, c_d, Z_d, rfl, H_d, hb⟩
          replace H_l := hide (H_l.out.then_ hb)
          replace H_p := hide (H_p.out.then_ hb)
          replace b_p := hide (b_p.out.keep hb)
          replace B := hide (Below.then_ B.out hb)
          clear hb
          replace H_d := hide H_d
          rw [Int.toNat_natCast, bin_ql] at H_d
          clear c_p0 c_p1 c_p2
          go_wp2_with fail
          refine ((trials_k H_l.out (by decide) (by omega) hD.out (by decide) (Nat.le_refl _) htk.out).mono fun _ _ h => RetLE.fix h).mono ?_
          rintro e w2 ⟨A_c, c_c, Z_c, rfl, H_c, hb⟩
          replace H_l := hide (H_l.out.then_ hb)
          replace H_p := hide (H_p.out.then_ hb)
          replace H_d := hide (H_d.out.then_ hb)
          replace b_p := hide (b_p.out.keep hb)
          replace B := hide (Below.then_ B.out hb)
          clear hb
          replace H_c := hide H_c
          go_wp2_with fail
          refine ((mean_p H_d.out (by decide) (Nat.le_refl _) (CmH.nf H_d.out (by decide) (K := 126000000) (by decide) hDP.out hin.out hDD.out) (by decide) hv.out).mono fun _ _ h => RetRE.fix rfl hmn.out h).mono ?_
          rintro e w3 ⟨x_m, rfl, H_m, hb⟩
          replace H_l := hide (H_l.out.then_ hb)
          replace H_p := hide (H_p.out.then_ hb)
          replace H_d := hide (H_d.out.then_ hb)
          replace H_c := hide (H_c.out.then_ hb)
          replace b_p := hide (b_p.out.keep hb)
          replace B := hide (Below.then_ B.out hb)
          clear hb
          replace H_m := hide H_m
          have b_m := hide (Box3.new w3 (.bool x_m.s) (.slice x_m.A x_m.n x_m.c) (.slice x_m.B x_m.m x_m.d) rfl)
          have hb : Below w3.heap.size w3 (w3.alloc (.cells #[.bool x_m.s, .slice x_m.A x_m.n x_m.c, .slice x_m.B x_m.m x_m.d] 27)) := Below.al_ (Below.refl _ _) _
          replace H_l := hide (H_l.out.then_ hb)
          replace H_p := hide (H_p.out.then_ hb)
          replace H_d := hide (H_d.out.then_ hb)
          replace H_c := hide (H_c.out.then_ hb)
          replace H_m := hide (H_m.out.then_ hb)
          replace b_p := hide (b_p.out.keep hb)
          replace B := hide (Below.then_ B.out hb)
          clear hb
          go_wp2_with fail
          refine ((variance_p H_d.out (by decide) (Nat.le_refl _) (CmH.nf H_d.out (by decide) (K := 126000000) (by decide) hDP.out hin.out hDD.out) (by decide) hv.out).mono fun _ _ h => RetRE.fix rfl hvr.out h).mono ?_
          rintro e w4 ⟨x_v, rfl, H_v, hb⟩
          replace H_l := hide (H_l.out.then_ hb)
          replace H_p := hide (H_p.out.then_ hb)
          replace H_d := hide (H_d.out.then_ hb)
          replace H_c := hide (H_c.out.then_ hb)
          replace H_m := hide (H_m.out.then_ hb)
          replace b_p := hide (b_p.out.keep hb)
          replace b_m := hide (b_m.out.keep hb)
          replace B := hide (Below.then_ B.out hb)
          clear hb
          replace H_v := hide H_v
          have b_v := hide (Box3.new w4 (.bool x_v.s) (.slice x_v.A x_v.n x_v.c) (.slice x_v.B x_v.m x_v.d) rfl)
          have hb : Below w4.heap.size w4 (w4.alloc (.cells #[.bool x_v.s, .slice x_v.A x_v.n x_v.c, .slice x_v.B x_v.m x_v.d] 27)) := Below.al_ (Below.refl _ _) _
          replace H_l := hide (H_l.out.then_ hb)
          replace H_p := hide (H_p.out.then_ hb)
          replace H_d := hide (H_d.out.then_ hb)
          replace H_c := hide (H_c.out.then_ hb)
          replace H_m := hide (H_m.out.then_ hb)
          replace H_v := hide (H_v.out.then_ hb)
          replace b_p := hide (b_p.out.keep hb)
          replace b_m := hide (b_m.out.keep hb)
          replace B := hide (Below.then_ B.out hb)
          clear hb
          go_wp2_with fail
          refine (samelist_c H_d.out H_c.out (Nat.le_refl _) (fun _ _ => rfl) hN1.out).mono ?_
          rintro e w5 ⟨rfl, hb⟩
          replace H_l := hide (H_l.out.then_ hb)
          replace H_p := hide (H_p.out.then_ hb)
          replace H_d := hide (H_d.out.then_ hb)
          replace H_c := hide (H_c.out.then_ hb)
          replace H_m := hide (H_m.out.then_ hb)
          replace H_v := hide (H_v.out.then_ hb)
          replace b_p := hide (b_p.out.keep hb)
          replace b_m := hide (b_m.out.keep hb)
          replace b_v := hide (b_v.out.keep hb)
          replace B := hide (Below.then_ B.out hb)
          clear hb
          clear H_d
          clear H_c
          clear H_l
          have c_p0 := b_p.out.at0 b_p.out.lt_size (Nat.le_refl _)
          have c_p1 := b_p.out.at1 b_p.out.lt_size (Nat.le_refl _)
          have c_p2 := b_p.out.at2 b_p.out.lt_size (Nat.le_refl _)
          have U0 : Below w5.heap.size w5 w5 := Below.refl _ _
          have hbx := Below.drw_ w5
          go_wp2_with fail
          have U1 : Below w5.heap.size w5 (w5.drew.alloc (.cells #[.bool false, .slice none 0 0, .slice none 0 0] 27)) := Below.al_ hbx _
          go_region_held3 (fun w' => Below w5.heap.size w5 w') (first | (with_reducible assumption) | (exact Below.al_ (by with_reducible assumption) _) | (exact ((Below.setCell U8 U7.size _).setCell U7.size _).setCell U7.size _) | (exact ((Below.setCell U8 (Nat.le_refl _) _).setCell (Nat.le_refl _) _).setCell (Nat.le_refl _) _)) (first | (go_at_call 18; (with_reducible refine (part_n1 hi32 _).mono ?_); rintro e w7 ⟨x7, rfl, R7, hb7⟩; (first | have U7 : Below w5.heap.size w5 w7 := Below.then_ hbx hb7 | have U7 : Below w5.heap.size w5 w7 := Below.then_ U1 hb7); have U7a : Below w5.heap.size w5 (w7.alloc (.cells #[.bool false, .slice none 0 0, .slice none 0 0] 27)) := Below.al_ U7 _; (try have z7 : Box3 w7 w5.heap.size (.bool false) (.slice none 0 0) (.slice none 0 0) := (Box3.new (g := w5.heap.size) w5.drew (.bool false) (.slice none 0 0) (.slice none 0 0) rfl).keep hb7); replace R7 := hide R7; clear hb7) | (go_at_call 17; (first | with_reducible refine (mul_q (H_p.out.then_ U7) (by decide) R7.out (by decide) (Nat.le_refl _) rfl).mono ?_ | with_reducible refine (mul_q (H_p.out.then_ U7a) (by decide) (R7.out.then_ (Below.al_ (Below.refl _ _) (.cells #[.bool false, .slice none 0 0, .slice none 0 0] 27))) (by decide) (Nat.le_refl _) rfl).mono ?_); rintro e w8 ⟨x_n, rfl, H_n, hb8⟩; (first | have U8 : Below w5.heap.size w5 w8 := Below.then_ U7 hb8 | have U8 : Below w5.heap.size w5 w8 := Below.then_ U7a hb8); (first | have z8 : Box3 w8 w7.heap.size (.bool false) (.slice none 0 0) (.slice none 0 0) := (Box3.new w7 (.bool false) (.slice none 0 0) (.slice none 0 0) rfl).keep hb8 | have z8 : Box3 w8 w5.heap.size (.bool false) (.slice none 0 0) (.slice none 0 0) := z7.keep hb8 | skip); (try (have c_n0 := z8.at0 z8.lt_size (Nat.le_refl _) w8 (Below.refl _ _); have c_n1 := z8.at1 z8.lt_size (Nat.le_refl _) w8 (Below.refl _ _); have c_n2 := z8.at2 z8.lt_size (Nat.le_refl _) w8 (Below.refl _ _); have f_n0 := z8.free0 z8.lt_size (Nat.le_refl _) w8 (Below.refl _ _); have f_n1 := z8.free1 z8.lt_size (Nat.le_refl _) w8 (Below.refl _ _); have f_n2 := z8.free2 z8.lt_size (Nat.le_refl _) w8 (Below.refl _ _); have l_n := z8.lt_size)); replace H_n := hide H_n))
          all_goals clear c_p0 c_p1 c_p2
          all_goals (first
            | (have U9 := Below.al_ U8 (.cells #[.bool x_n.s, .slice x_n.A x_n.n x_n.c, .slice x_n.B x_n.m x_n.d] 27); have b_n := Box3.new w8 (.bool x_n.s) (.slice x_n.A x_n.n x_n.c) (.slice x_n.B x_n.m x_n.d) rfl; have H_n9 := H_n.out.then_ (Below.al_ (Below.refl _ _) (.cells #[.bool x_n.s, .slice x_n.A x_n.n x_n.c, .slice x_n.B x_n.m x_n.d] 27)); generalize w8.heap.size = gn at b_n ⊢; generalize (w8.alloc (.cells #[.bool x_n.s, .slice x_n.A x_n.n x_n.c, .slice x_n.B x_n.m x_n.d] 27)) = w9 at U9 b_n H_n9 ⊢; fail_if_success (have := l_n))
            | (have U9 := ((Below.setCell (p := ⟨w7.heap.size, 0, none⟩) U8 U7.size (.bool x_n.s)).setCell (p := ⟨w7.heap.size, 1, none⟩) U7.size (.slice x_n.A x_n.n x_n.c)).setCell (p := ⟨w7.heap.size, 2, none⟩) U7.size (.slice x_n.B x_n.m x_n.d); have b_n := Box3.set (g := w7.heap.size) z8 (.bool x_n.s) (.slice x_n.A x_n.n x_n.c) (.slice x_n.B x_n.m x_n.d); have H_n9 := H_n.out.set3 (y := zeroRc) (g := w7.heap.size) c_n0 c_n1 c_n2 (.bool x_n.s) (.slice x_n.A x_n.n x_n.c) (.slice x_n.B x_n.m x_n.d); generalize hgn : w7.heap.size = gn at U9 b_n H_n9 ⊢; generalize (((w8.setCell ⟨gn, 0, none⟩ (.bool x_n.s)).setCell ⟨gn, 1, none⟩ (.slice x_n.A x_n.n x_n.c)).setCell ⟨gn, 2, none⟩ (.slice x_n.B x_n.m x_n.d)) = w9 at U9 b_n H_n9 ⊢)
            | (obtain ⟨gn, hgn⟩ : ∃ gn, gn = w5.heap.size := ⟨_, rfl⟩; have hge : w5.heap.size ≤ gn := Nat.le_of_eq hgn.symm; rw [← hgn] at z8 c_n0 c_n1 c_n2; have U9 := ((Below.setCell (p := ⟨gn, 0, none⟩) U8 hge (.bool x_n.s)).setCell (p := ⟨gn, 1, none⟩) hge (.slice x_n.A x_n.n x_n.c)).setCell (p := ⟨gn, 2, none⟩) hge (.slice x_n.B x_n.m x_n.d); have b_n := Box3.set (g := gn) z8 (.bool x_n.s) (.slice x_n.A x_n.n x_n.c) (.slice x_n.B x_n.m x_n.d); have H_n9 := H_n.out.set3 (y := zeroRc) (g := gn) c_n0 c_n1 c_n2 (.bool x_n.s) (.slice x_n.A x_n.n x_n.c) (.slice x_n.B x_n.m x_n.d); simp only [← hgn]; clear hge; generalize (((w8.setCell ⟨gn, 0, none⟩ (.bool x_n.s)).setCell ⟨gn, 1, none⟩ (.slice x_n.A x_n.n x_n.c)).setCell ⟨gn, 2, none⟩ (.slice x_n.B x_n.m x_n.d)) = w9 at U9 b_n H_n9 ⊢))
          all_goals
            have H_p9 := hide (H_p.out.then_ U9)
            have H_m9 := hide (H_m.out.then_ U9)
            have H_v9 := hide (H_v.out.then_ U9)
            have b_p9 := b_p.out.keep U9
            have b_m9 := b_m.out.keep U9
            have b_v9 := b_v.out.keep U9
            have B9 := hide (Below.then_ B.out U9)
            replace H_n9 := hide H_n9
            clear U0 U1 U7 U7a R7 hb8 U8 H_n hbx hqs hD hsbh hbk htk hv hin hDD hDP hmn hvr hN1 hqn H_p H_m H_v b_p b_m b_v B U9
            (try clear hb C)
            (try clear c_n0 c_n1 c_n2 f_n0 f_n1 f_n2 l_n z8)
            (try clear hgn)
            have c_p0 := b_p9.at0 b_p9.lt_size (Nat.le_refl _)
            have c_p1 := b_p9.at1 b_p9.lt_size (Nat.le_refl _)
            have c_p2 := b_p9.at2 b_p9.lt_size (Nat.le_refl _)
            have c_m0 := b_m9.at0 b_m9.lt_size (Nat.le_refl _)
            have c_m1 := b_m9.at1 b_m9.lt_size (Nat.le_refl _)
            have c_m2 := b_m9.at2 b_m9.lt_size (Nat.le_refl _)
            have c_v0 := b_v9.at0 b_v9.lt_size (Nat.le_refl _)
            have c_v1 := b_v9.at1 b_v9.lt_size (Nat.le_refl _)
            have c_v2 := b_v9.at2 b_v9.lt_size (Nat.le_refl _)
            have c_n0 := b_n.at0 b_n.lt_size (Nat.le_refl _)
            have c_n1 := b_n.at1 b_n.lt_size (Nat.le_refl _)
            have c_n2 := b_n.at2 b_n.lt_size (Nat.le_refl _)
            clear b_p9 b_m9 b_v9 b_n
            have hz0 := hide (show sgn (q * (i : Rat) - q * (i : Rat)).num = 0 from cmp_eq.2 rfl)
            have hz1 := hide (show sgn (q * (i : Rat) * (1 - q) - q * (i : Rat) * (1 - q)).num = 0 from cmp_eq.2 rfl)
            have V0 : Below w9.heap.size w9 w9 := Below.refl _ _
            have hbx := Below.drw_ w9
            go_wp2_with fail
            go_region_held3 (fun w' => Below w9.heap.size w9 w') (first | (with_reducible assumption)) (first | (go_at_call 19; (with_reducible refine (cmp_q (H_v9.out.then_ V13).rq (by decide) R13.out.rq (by decide) (Nat.le_refl _) hz1.out).mono ?_); rintro e w14 ⟨rfl, hb14⟩; have V14 : Below w9.heap.size w9 w14 := Below.then_ V13 hb14; clear hb14 R13) | (go_at_call 19; (with_reducible refine (cmp_q (H_m9.out.then_ hbx).rq (by decide) (H_n9.out.then_ hbx).rq (by decide) (Nat.le_refl _) hz0.out).mono ?_); rintro e w10 ⟨rfl, hb10⟩; have V10 : Below w9.heap.size w9 w10 := Below.then_ hbx hb10; clear hb10) | (go_at_call 18; (with_reducible refine (part_11 _).mono ?_); rintro e w11 ⟨x11, rfl, R11, hb11⟩; have V11 : Below w9.heap.size w9 w11 := Below.then_ V10 hb11; replace R11 := hide R11; clear hb11) | (go_at_call 20; (with_reducible refine (sub_q R11.out (by decide) (H_p9.out.then_ V11) (by decide) (Nat.le_refl _) rfl).mono ?_); rintro e w12 ⟨x12, rfl, R12, hb12⟩; have V12 : Below w9.heap.size w9 w12 := Below.then_ V11 hb12; replace R12 := hide R12; clear hb12 R11) | (go_at_call 17; (with_reducible refine (mul_q (H_n9.out.then_ V12).rq (by decide) R12.out.rq (by decide) (Nat.le_refl _) rfl).mono ?_); rintro e w13 ⟨x13, rfl, R13, hb13⟩; have V13 : Below w9.heap.size w9 w13 := Below.then_ V12 hb13; replace R13 := hide R13; clear hb13 R12) | (go_at_call 11; (with_reducible refine (hA _).mono ?_); rintro e w15 ⟨rfl, hb15⟩; have V15 : Below w9.heap.size w9 w15 := Below.then_ V14 hb15; have B15 := hide (Below.then_ B9.out V15); clear hb15))
            all_goals
              clear c_p0 c_p1 c_p2 c_m0 c_m1 c_m2 c_v0 c_v1 c_v2 c_n0 c_n1 c_n2
              go_wp2
              go_ret
              exact ⟨rfl, B15.out⟩
end Go.Proofs.Ytdihgmbldnekhaa
