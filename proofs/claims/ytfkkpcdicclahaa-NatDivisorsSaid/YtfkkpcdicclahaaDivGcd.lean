/-
  DivMod and Gcd.
-/
import Derived.Test.YtfkkpcdicclahaaLong
import Derived.Test.YtfkkpcdicclahaaGcdS
import Derived.Deep.LoopGhost
namespace Go.Proofs.Ytfkkpcdicclahaa
open Go.RowKit

set_option maxHeartbeats 1000000 in
theorem divmod_long (w : World) (Bd : Nat) (A A' : Option Addr) (n c n' c' : Nat) (xs ys : List Nat) (hx : Rd w Bd A n c xs) (hy : Rd w Bd A' n' c' ys) (hB : Bd ≤ w.heap.size) (hn : n + 1 ≤ 70368744177664) (hle : val ys ≤ val xs) (htwo : 2 ≤ (dig (val ys)).length) :
    Calls Try.prog 30 #[.slice A n c, .slice A' n' c'] w (RetDM w (val xs) (val ys)) := by
  obtain ⟨X, m, hm, HX, hmn, hvx, hXd⟩ := hx.trimmed
  obtain ⟨Y, m', hm', HY, hmn', hvy, hYd⟩ := hy.trimmed
  obtain ⟨p, rfl⟩ : ∃ p, m' = p + 2 := ⟨m' - 2, by rw [← hm'.out]; omega⟩
  obtain ⟨z, hz⟩ : ∃ z : Int, z = cmpN (val X) (val Y) := ⟨_, rfl⟩
  have hz0 : 0 ≤ z := by rw [hz, hvx.out, hvy.out]; exact cmpN_ge hle
  have hC := hide hz.symm
  have htop : Hid (lm Y (p + 1) ≠ 0) := hide (by
    have := dig_top (n := val ys) (by omega)
    rw [hm'.out, ← hYd.out] at this
    exact this)
  have hle2 : Hid (val Y ≤ val X) := hide (by rw [hvx.out, hvy.out]; exact hle)
  clear hz hle htwo
  have hcap := HX.cap
  have hbig := HX.big
  have hcap' := HY.cap
  have hbig' := HY.big
  replace HX := hide HX
  replace HY := hide HY
  have H := hide hx
  have H' := hide hy
  clear hx hy
  go_enter Try.func30, Try.ntmps30
  go_wp2_with (first
    | (go_at_call 41; ((with_reducible refine (trim_to _ Bd A n c xs H.out m hm.out).mono ?_); rintro e w' ⟨rfl, rfl⟩))
    | (go_at_call 41; ((with_reducible refine (trim_to _ Bd A' n' c' ys H'.out (p + 2) hm'.out).mono ?_); rintro e w' ⟨rfl, rfl⟩))
    | (go_at_call 16; ((with_reducible refine (cmp_any _ Bd A A' m c (p + 2) c' X Y HX.out HY.out).mono ?_); rw [hC.out]; rintro e w' ⟨rfl, q, rfl⟩)))
  refine (long_any _ Bd A A' m c p c' X Y (HX.out.drewN q) (HY.out.drewN q) hB (by omega) htop.out hle2.out).mono ?_
  rintro e w1 ⟨A1, c1, A2, c2, rfl, hR1, hR2, hb⟩
  rw [hvx.out, hvy.out] at hR1 hR2 ⊢
  replace hR1 := hide hR1
  replace hR2 := hide hR2
  replace hb := hide hb
  go_wp2
  go_ret3
  exact ⟨_, _, _, _, rfl, hR1.out, hR2.out, (below_drewN (Below.refl _ _) _).trans hb.out⟩

theorem divmod_any (w : World) (Bd : Nat) (A A' : Option Addr) (n c n' c' : Nat) (xs ys : List Nat) (hx : Rd w Bd A n c xs) (hy : Rd w Bd A' n' c' ys) (hB : Bd ≤ w.heap.size) (hn : n + 1 ≤ 70368744177664) (h0 : val ys ≠ 0) :
    Calls Try.prog 30 #[.slice A n c, .slice A' n' c'] w (RetDM w (val xs) (val ys)) := by
  by_cases hlt : val xs < val ys
  · exact divmod_less w Bd A A' n c n' c' xs ys hx hy hB hlt
  · by_cases hone : (dig (val ys)).length = 1
    · exact divmod_short w Bd A A' n c n' c' xs ys hx hy hB (by omega) hone
    · have hz : (dig (val ys)).length ≠ 0 := fun h => h0 (dig_len_zero.1 h)
      exact divmod_long w Bd A A' n c n' c' xs ys hx hy hB hn (by omega) (by omega)

/-- two numbers of the gcd g -/
def GcdRel (w : World) (g N a b : Nat) (A : Option Addr) (n c : Nat) (A' : Option Addr) (n' c' : Nat) (wr : World) : Prop :=
  Nat.gcd a b = g ∧ n = (dig a).length ∧ n' = (dig b).length ∧ n ≤ N ∧ n' ≤ N ∧ Rd wr wr.heap.size A n c (dig a) ∧ Rd wr wr.heap.size A' n' c' (dig b) ∧ Below w.heap.size w wr

set_option maxHeartbeats 2000000 in
theorem gcd_any (w : World) (Bd : Nat) (A A' : Option Addr) (n c n' c' : Nat) (xs ys : List Nat) (hx : Rd w Bd A n c xs) (hy : Rd w Bd A' n' c' ys) (hB : Bd ≤ w.heap.size) (hn : n + 1 ≤ 70368744177664) (hn' : n' + 1 ≤ 70368744177664) :
    Calls Try.prog 32 #[.slice A n c, .slice A' n' c'] w (RetNat w (Nat.gcd (val xs) (val ys))) := by
  obtain ⟨N, hN1, hN2, hN3⟩ : ∃ N, n ≤ N ∧ n' ≤ N ∧ N + 1 ≤ 70368744177664 := ⟨max n n', by omega, by omega, by omega⟩
  have hl1 : (dig (val xs)).length ≤ n := by rw [← hx.len]; exact dig_len_val hx.limbs
  have hl2 : (dig (val ys)).length ≤ n' := by rw [← hy.len]; exact dig_len_val hy.limbs
  have H := hide hx
  have H' := hide hy
  clear hx hy
  go_enter Try.func32, Try.ntmps32
  go_wp2_with fail
  refine (norm_any _ Bd A n c xs H.out hB).mono ?_
  rintro e w1 ⟨rfl, hO1, hb1, hlm1⟩
  obtain ⟨m1, hm1⟩ : ∃ m1, m1 = (dig (val xs)).length := ⟨_, rfl⟩
  rw [← hm1] at hlm1 hl1 ⊢
  have hs1 : w.heap.size < w1.heap.size := hO1.lt
  replace hm1 := hide hm1
  replace hO1 := hide hO1
  replace hb1 := hide hb1
  go_wp2_with fail
  refine (norm_any _ Bd A' n' c' ys (H'.out.below (hb1.out.mono hB)) (by omega)).mono ?_
  rintro e w2 ⟨rfl, hO2, hb2, hlm2⟩
  obtain ⟨m2, hm2⟩ : ∃ m2, m2 = (dig (val ys)).length := ⟨_, rfl⟩
  rw [← hm2] at hlm2 hl2 ⊢
  have hs2 : w1.heap.size < w2.heap.size := hO2.lt
  have hR1 := hide (by have := (hO1.out.below hb2 hs1).rd0 (c := m1) (by rw [hm1.out]; exact Nat.le_refl _) hlm1 (B := w2.heap.size) (by omega); rw [← hm1.out] at this; exact this)
  have hR2 := hide (by have := hO2.rd0 (c := m2) (by rw [hm2]; exact Nat.le_refl _) hlm2 (B := w2.heap.size) hs2; rw [← hm2] at this; exact this)
  replace hb2 := hide (hb1.out.trans (hb2.mono (by omega)))
  replace hm2 := hide hm2
  clear hO2
  generalize w1.heap.size = g2 at *
  have hstart := hide (show GcdRel w (Nat.gcd (val xs) (val ys)) N (val xs) (val ys) (some ⟨w.heap.size, 0, none⟩) m1 m1 (some ⟨g2, 0, none⟩) m2 m2 w2 from ⟨rfl, hm1.out, hm2.out, by omega, by omega, hR1.out, hR2.out, hb2.out⟩)
  clear hO1 hR1 hR2
  go_wp2_with fail
  go_loopg [5, 6] (val ys) (fun k x y wr => ∃ (a : Nat) (A1 : Option Addr) (n1 c1 : Nat) (A2 : Option Addr) (n2 c2 : Nat), x = .slice A1 n1 c1 ∧ y = .slice A2 n2 c2 ∧ GcdRel w (Nat.gcd (val xs) (val ys)) N a k A1 n1 c1 A2 n2 c2 wr)
  case atStart => exact ⟨val xs, _, _, _, _, _, _, rfl, rfl, hstart.out⟩
  case round =>
    obtain ⟨a, A1, n1, c1, A2, n2, c2, rfl, rfl, hg, hn1, hn2, hN4, hN5, hR1, hR2, hb⟩ := hrel
    by_cases hbigger : 2 < n1 ∨ 2 < n2
    · by_cases hz : n2 = 0
      · have hk0 : gk = 0 := dig_len_zero.1 (by omega)
        have hga : a = Nat.gcd (val xs) (val ys) := by rw [← hg, hk0, Nat.gcd_zero_right]
        have h2 : 2 < n1 := by omega
        have hgh := hide hga
        have hn1h := hide hn1
        replace hR1 := hide hR1
        replace hb := hide hb
        subst hz
        clear hg hk0 hga hbigger hR2 hn1 hn2
        go_wp2
        go_ret
        rw [RetNat, ← hgh.out]
        exact ⟨A1, c1, by rw [← hn1h.out]; rfl, by rw [← hn1h.out]; exact hR1.out, hb.out⟩
      · have hk0 : gk ≠ 0 := by
          rintro rfl
          rw [dig_zero] at hn2
          simp at hn2
          exact hz hn2
        have hml : (dig (a % gk)).length ≤ N := by
          have := dig_len_mono (Nat.le_of_lt (Nat.mod_lt a (Nat.pos_of_ne_zero hk0)))
          omega
        have hgg : Nat.gcd gk (a % gk) = Nat.gcd (val xs) (val ys) := by
          rw [← hg, Nat.gcd_comm gk, ← Nat.gcd_rec, Nat.gcd_comm]
        have hml' := hide hml
        have hgg' := hide hgg
        have hk0' := hide hk0
        have hn1' := hide hn1
        have hn2' := hide hn2
        replace hR1 := hide hR1
        replace hR2 := hide hR2
        replace hb := hide hb
        clear hg hk0 hml hgg hn1 hn2
        rcases (show 2 < n1 ∨ (¬ 2 < n1 ∧ 2 < n2) by omega) with h2 | ⟨h2, h3⟩
        all_goals
          clear hbigger
          go_wp2_with fail
          refine (divmod_any wr wr.heap.size A1 A2 n1 c1 n2 c2 (dig a) (dig gk) hR1.out hR2.out (Nat.le_refl _) (by omega) (by rw [val_dig]; exact hk0'.out)).mono ?_
          rintro e w3 ⟨A3, c3, A4, c4, rfl, hR3, hR4, hb3⟩
          rw [val_dig, val_dig] at hR4 ⊢
          have hR2' := hide ((hR2.out.below hb3).more hb3.size)
          have hb3' := hide (hb.out.trans (hb3.mono hb.out.size))
          replace hR4 := hide hR4
          clear hR3 hb3
          go_wp2
          go_roundg (a % gk)
          case measure => exact Nat.mod_lt _ (Nat.pos_of_ne_zero hk0'.out)
          case rel => exact ⟨gk, A2, n2, c2, A4, (dig (a % gk)).length, c4, rfl, rfl, hgg'.out, hn2'.out, rfl, by omega, hml'.out, hR2'.out, hR4.out, hb3'.out⟩
    · have h2 : ¬ 2 < n1 := by omega
      have h3 : ¬ 2 < n2 := by omega
      have hv1 : Hid (vl (dig a) 2 = a) := hide (by rw [vl_ge (by omega), val_dig])
      have hv2 : Hid (vl (dig gk) 2 = gk) := hide (by rw [vl_ge (by omega), val_dig])
      have ha64 : a < 18446744073709551616 := (dig_len_le a 2).1 (by omega)
      have hk64 : gk < 18446744073709551616 := (dig_len_le gk 2).1 (by omega)
      have hgg := hide hg
      replace hR1 := hide hR1
      replace hR2 := hide hR2
      replace hb := hide hb
      clear hbigger hn1 hn2 hg
      go_wp2_with (first
        | (go_at_call 42; ((with_reducible refine (low_any _ _ _ _ _ _ hR1.out).mono ?_); rintro e w' ⟨rfl, rfl⟩))
        | (go_at_call 42; ((with_reducible refine (low_any _ _ _ _ _ _ hR2.out).mono ?_); rintro e w' ⟨rfl, rfl⟩)))
      rw [hv1.out, hv2.out]
      refine (wordGcd_any wr a gk ha64 hk64).mono ?_
      rintro e w3 ⟨rfl, q, rfl⟩
      have hglt : Nat.gcd a gk < 18446744073709551616 := by
        rcases Nat.eq_zero_or_pos a with h | h
        · rw [h, Nat.gcd_zero_left]; exact hk64
        · exact Nat.lt_of_le_of_lt (Nat.gcd_le_left _ h) ha64
      rw [hgg.out] at hglt ⊢
      go_wp2_with fail
      refine (of_any _ _ hglt).mono ?_
      rintro e w4 ⟨A4, c4, rfl, hR4, hb4⟩
      replace hR4 := hide hR4
      replace hb4 := hide hb4
      clear hglt
      go_wp2
      go_ret
      exact ⟨_, _, rfl, hR4.out, (below_drewN hb.out q).trans (hb4.out.mono (hb.out.size))⟩

end Go.Proofs.Ytfkkpcdicclahaa
