/-
  GcdS, DivGcd.
-/
import Derived.Test.YtdihgmbldnekhaaNatBits
import Derived.Test.YtdihgmbldnekhaaNatMem
import Derived.Test.YtdihgmbldnekhaaNatLong
import Derived.Deep.LoopGhost
namespace Go.Proofs.Ytdihgmbldnekhaa
section
open Go.RowKit

set_option maxHeartbeats 1000000 in
theorem wordGcd_any (w : World) (x y : Nat) (hx : x < 18446744073709551616) (hy : y < 18446744073709551616) :
    Calls Try.prog 115 #[.int .u64 (x : Int), .int .u64 (y : Int)] w (RetQ w (.int .u64 (Nat.gcd x y : Int))) := by
  go_enter Try.func115, Try.ntmps115
  go_wp2
  go_loopw [0, 1] (fun u v wr => ∃ a b : Nat, a < 18446744073709551616 ∧ b < 18446744073709551616 ∧ u = .int .u64 (a : Int) ∧ v = .int .u64 (b : Int) ∧ Hid (Nat.gcd a b = Nat.gcd x y) ∧ ∃ q, wr = w.drewN q) (fun _ v _ => (intOf v).toNat)
  case atStart => exact ⟨x, y, hx, hy, rfl, rfl, hide rfl, 0, rfl⟩
  case round =>
    obtain ⟨a, b, ha, hb, rfl, rfl, hg, q, rfl⟩ := hrel
    by_cases h0 : b = 0
    · subst h0
      go_wp2
      go_ret
      have := hg.out
      rw [Nat.gcd_zero_right] at this
      rw [← this]
      exact ⟨rfl, q, rfl⟩
    · have hp : 0 < b := by omega
      have hm : a % b < b := Nat.mod_lt _ hp
      have hne : ((b : Int) == 0) = false := by simpa using h0
      go_wp2_with fail
      go_quiet (fail)
      go_wp2
      go_roundw
      case rel =>
        refine ⟨b, a % b, hb, by omega, rfl, by simp, hide ?_, _, World.drewN_drewN _ _ _⟩
        rw [← hg.out, Nat.gcd_comm b, ← Nat.gcd_rec, Nat.gcd_comm]
      case measure =>
        have e : ((a : Int) % (b : Int)) = ((a % b : Nat) : Int) := by simp
        simp only [intOf, e]
        omega

set_option maxHeartbeats 1000000 in
theorem gcd_small (w : World) (Bd : Nat) (A A' : Option Addr) (n c n' c' : Nat) (xs ys : List Nat) (hx : Rd w Bd A n c xs) (hy : Rd w Bd A' n' c' ys) (hB : Bd ≤ w.heap.size) (h1 : val xs < 18446744073709551616) (h2 : val ys < 18446744073709551616) :
    Calls Try.prog 92 #[.slice A n c, .slice A' n' c'] w (RetNat w (Nat.gcd (val xs) (val ys))) := by
  have hl1 : (dig (val xs)).length ≤ 2 := (dig_len_le _ 2).2 h1
  have hl2 : (dig (val ys)).length ≤ 2 := (dig_len_le _ 2).2 h2
  have hv1 : Hid (vl (dig (val xs)) 2 = val xs) := hide (by rw [vl_ge hl1, val_dig])
  have hv2 : Hid (vl (dig (val ys)) 2 = val ys) := hide (by rw [vl_ge hl2, val_dig])
  have H := hide hx
  have H' := hide hy
  clear hx hy
  go_enter Try.func92, Try.ntmps92
  go_wp2_with fail
  refine (norm_any _ Bd A n c xs H.out hB).mono ?_
  rintro e w1 ⟨rfl, hO1, hb1, hlm1⟩
  obtain ⟨m1, hm1⟩ : ∃ m1, m1 = (dig (val xs)).length := ⟨_, rfl⟩
  rw [← hm1] at hlm1 hl1 ⊢
  have hs1 : w.heap.size < w1.heap.size := hO1.lt
  replace hm1 := hide hm1
  replace hO1 := hide hO1
  replace hb1 := hide hb1
  go_wp2_with fail
  refine (norm_any _ Bd A' n' c' ys (H'.out.below (hb1.out.mono hB)) (by omega)).mono ?_
  rintro e w2 ⟨rfl, hO2, hb2, hlm2⟩
  obtain ⟨m2, hm2⟩ : ∃ m2, m2 = (dig (val ys)).length := ⟨_, rfl⟩
  rw [← hm2] at hlm2 hl2 ⊢
  have hs2 : w1.heap.size < w2.heap.size := hO2.lt
  have hR1 := hide (by have := (hO1.out.below hb2 hs1).rd0 (c := m1) (by rw [hm1.out]; exact Nat.le_refl _) hlm1 (B := w2.heap.size) (by omega); rw [← hm1.out] at this; exact this)
  have hR2 := hide (by have := hO2.rd0 (c := m2) (by rw [hm2]; exact Nat.le_refl _) hlm2 (B := w2.heap.size) hs2; rw [← hm2] at this; exact this)
  replace hb2 := hide (hb1.out.trans (hb2.mono (by omega)))
  replace hm2 := hide hm2
  clear hO2
  generalize w1.heap.size = g2 at *
  go_wp2_with fail
  refine wp_loop_rounds 1 ?_
  rw [rounds_succ]
  go_wp2_with (first
    | (go_at_call 116; ((with_reducible refine (low_any _ _ _ _ _ _ hR1.out).mono ?_); rintro e w' ⟨rfl, rfl⟩))
    | (go_at_call 116; ((with_reducible refine (low_any _ _ _ _ _ _ hR2.out).mono ?_); rintro e w' ⟨rfl, rfl⟩)))
  rw [hv1.out, hv2.out]
  refine (wordGcd_any w2 (val xs) (val ys) h1 h2).mono ?_
  rintro e w3 ⟨rfl, q, rfl⟩
  have hg : Nat.gcd (val xs) (val ys) < 18446744073709551616 := by
    rcases Nat.eq_zero_or_pos (val xs) with h | h
    · rw [h, Nat.gcd_zero_left]; exact h2
    · exact Nat.lt_of_le_of_lt (Nat.gcd_le_left _ h) h1
  clear h1 h2
  go_wp2_with fail
  refine (of_any _ _ hg).mono ?_
  rintro e w4 ⟨A4, c4, rfl, hR4, hb4⟩
  replace hR4 := hide hR4
  replace hb4 := hide hb4
  clear hg
  go_wp2
  go_ret
  exact ⟨_, _, rfl, hR4.out, (below_drewN hb2.out q).trans (hb4.out.mono (hb2.out.size))⟩
end

section
open Go.RowKit

/-- two numbers of the gcd g -/
def GcdRel (w : World) (g N a b : Nat) (A : Option Addr) (n c : Nat) (A' : Option Addr) (n' c' : Nat) (wr : World) : Prop :=
  Nat.gcd a b = g ∧ n = (dig a).length ∧ n' = (dig b).length ∧ n ≤ N ∧ n' ≤ N ∧ Rd wr wr.heap.size A n c (dig a) ∧ Rd wr wr.heap.size A' n' c' (dig b) ∧ Below w.heap.size w wr

set_option maxHeartbeats 2000000 in
theorem gcd_any (w : World) (Bd : Nat) (A A' : Option Addr) (n c n' c' : Nat) (xs ys : List Nat) (hx : Rd w Bd A n c xs) (hy : Rd w Bd A' n' c' ys) (hB : Bd ≤ w.heap.size) (hn : n + 1 ≤ 70368744177664) (hn' : n' + 1 ≤ 70368744177664) :
    Calls Try.prog 92 #[.slice A n c, .slice A' n' c'] w (RetNat w (Nat.gcd (val xs) (val ys))) := by
  obtain ⟨N, hN1, hN2, hN3⟩ : ∃ N, n ≤ N ∧ n' ≤ N ∧ N + 1 ≤ 70368744177664 := ⟨max n n', by omega, by omega, by omega⟩
  have hl1 : (dig (val xs)).length ≤ n := by rw [← hx.len]; exact dig_len_val hx.limbs
  have hl2 : (dig (val ys)).length ≤ n' := by rw [← hy.len]; exact dig_len_val hy.limbs
  have H := hide hx
  have H' := hide hy
  clear hx hy
  go_enter Try.func92, Try.ntmps92
  go_wp2_with fail
  refine (norm_any _ Bd A n c xs H.out hB).mono ?_
  rintro e w1 ⟨rfl, hO1, hb1, hlm1⟩
  obtain ⟨m1, hm1⟩ : ∃ m1, m1 = (dig (val xs)).length := ⟨_, rfl⟩
  rw [← hm1] at hlm1 hl1 ⊢
  have hs1 : w.heap.size < w1.heap.size := hO1.lt
  replace hm1 := hide hm1
  replace hO1 := hide hO1
  replace hb1 := hide hb1
  go_wp2_with fail
  refine (norm_any _ Bd A' n' c' ys (H'.out.below (hb1.out.mono hB)) (by omega)).mono ?_
  rintro e w2 ⟨rfl, hO2, hb2, hlm2⟩
  obtain ⟨m2, hm2⟩ : ∃ m2, m2 = (dig (val ys)).length := ⟨_, rfl⟩
  rw [← hm2] at hlm2 hl2 ⊢
  have hs2 : w1.heap.size < w2.heap.size := hO2.lt
  have hR1 := hide (by have := (hO1.out.below hb2 hs1).rd0 (c := m1) (by rw [hm1.out]; exact Nat.le_refl _) hlm1 (B := w2.heap.size) (by omega); rw [← hm1.out] at this; exact this)
  have hR2 := hide (by have := hO2.rd0 (c := m2) (by rw [hm2]; exact Nat.le_refl _) hlm2 (B := w2.heap.size) hs2; rw [← hm2] at this; exact this)
  replace hb2 := hide (hb1.out.trans (hb2.mono (by omega)))
  replace hm2 := hide hm2
  clear hO2
  generalize w1.heap.size = g2 at *
  have hstart := hide (show GcdRel w (Nat.gcd (val xs) (val ys)) N (val xs) (val ys) (some ⟨w.heap.size, 0, none⟩) m1 m1 (some ⟨g2, 0, none⟩) m2 m2 w2 from ⟨rfl, hm1.out, hm2.out, by omega, by omega, hR1.out, hR2.out, hb2.out⟩)
  clear hO1 hR1 hR2
  go_wp2_with fail
  go_loopg [5, 6] (val ys) (fun k x y wr => ∃ (a : Nat) (A1 : Option Addr) (n1 c1 : Nat) (A2 : Option Addr) (n2 c2 : Nat), x = .slice A1 n1 c1 ∧ y = .slice A2 n2 c2 ∧ GcdRel w (Nat.gcd (val xs) (val ys)) N a k A1 n1 c1 A2 n2 c2 wr)
  case atStart => exact ⟨val xs, _, _, _, _, _, _, rfl, rfl, hstart.out⟩
  case round =>
    obtain ⟨a, A1, n1, c1, A2, n2, c2, rfl, rfl, hg, hn1, hn2, hN4, hN5, hR1, hR2, hb⟩ := hrel
    by_cases hbigger : 2 < n1 ∨ 2 < n2
    · by_cases hz : n2 = 0
      · have hk0 : gk = 0 := dig_len_zero.1 (by omega)
        have hga : a = Nat.gcd (val xs) (val ys) := by rw [← hg, hk0, Nat.gcd_zero_right]
        have h2 : 2 < n1 := by omega
        have hgh := hide hga
        have hn1h := hide hn1
        replace hR1 := hide hR1
        replace hb := hide hb
        subst hz
        clear hg hk0 hga hbigger hR2 hn1 hn2
        go_wp2
        go_ret
        rw [RetNat, ← hgh.out]
        exact ⟨A1, c1, by rw [← hn1h.out]; rfl, by rw [← hn1h.out]; exact hR1.out, hb.out⟩
      · have hk0 : gk ≠ 0 := by
          rintro rfl
          rw [dig_zero] at hn2
          simp at hn2
          exact hz hn2
        have hml : (dig (a % gk)).length ≤ N := by
          have := dig_len_mono (Nat.le_of_lt (Nat.mod_lt a (Nat.pos_of_ne_zero hk0)))
          omega
        have hgg : Nat.gcd gk (a % gk) = Nat.gcd (val xs) (val ys) := by
          rw [← hg, Nat.gcd_comm gk, ← Nat.gcd_rec, Nat.gcd_comm]
        have hml' := hide hml
        have hgg' := hide hgg
        have hk0' := hide hk0
        have hn1' := hide hn1
        have hn2' := hide hn2
        replace hR1 := hide hR1
        replace hR2 := hide hR2
        replace hb := hide hb
        clear hg hk0 hml hgg hn1 hn2
        rcases (show 2 < n1 ∨ (¬ 2 < n1 ∧ 2 < n2) by omega) with h2 | ⟨h2, h3⟩
        all_goals
          clear hbigger
          go_wp2_with fail
          refine (divmod_any wr wr.heap.size A1 A2 n1 c1 n2 c2 (dig a) (dig gk) hR1.out hR2.out (Nat.le_refl _) (by omega) (by rw [val_dig]; exact hk0'.out)).mono ?_
          rintro e w3 ⟨A3, c3, A4, c4, rfl, hR3, hR4, hb3⟩
          rw [val_dig, val_dig] at hR4 ⊢
          have hR2' := hide ((hR2.out.below hb3).more hb3.size)
          have hb3' := hide (hb.out.trans (hb3.mono hb.out.size))
          replace hR4 := hide hR4
          clear hR3 hb3
          go_wp2
          go_roundg (a % gk)
          case measure => exact Nat.mod_lt _ (Nat.pos_of_ne_zero hk0'.out)
          case rel => exact ⟨gk, A2, n2, c2, A4, (dig (a % gk)).length, c4, rfl, rfl, hgg'.out, hn2'.out, rfl, by omega, hml'.out, hR2'.out, hR4.out, hb3'.out⟩
    · have h2 : ¬ 2 < n1 := by omega
      have h3 : ¬ 2 < n2 := by omega
      have hv1 : Hid (vl (dig a) 2 = a) := hide (by rw [vl_ge (by omega), val_dig])
      have hv2 : Hid (vl (dig gk) 2 = gk) := hide (by rw [vl_ge (by omega), val_dig])
      have ha64 : a < 18446744073709551616 := (dig_len_le a 2).1 (by omega)
      have hk64 : gk < 18446744073709551616 := (dig_len_le gk 2).1 (by omega)
      have hgg := hide hg
      replace hR1 := hide hR1
      replace hR2 := hide hR2
      replace hb := hide hb
      clear hbigger hn1 hn2 hg
      go_wp2_with (first
        | (go_at_call 116; ((with_reducible refine (low_any _ _ _ _ _ _ hR1.out).mono ?_); rintro e w' ⟨rfl, rfl⟩))
        | (go_at_call 116; ((with_reducible refine (low_any _ _ _ _ _ _ hR2.out).mono ?_); rintro e w' ⟨rfl, rfl⟩)))
      rw [hv1.out, hv2.out]
      refine (wordGcd_any wr a gk ha64 hk64).mono ?_
      rintro e w3 ⟨rfl, q, rfl⟩
      have hglt : Nat.gcd a gk < 18446744073709551616 := by
        rcases Nat.eq_zero_or_pos a with h | h
        · rw [h, Nat.gcd_zero_left]; exact hk64
        · exact Nat.lt_of_le_of_lt (Nat.gcd_le_left _ h) ha64
      rw [hgg.out] at hglt ⊢
      go_wp2_with fail
      refine (of_any _ _ hglt).mono ?_
      rintro e w4 ⟨A4, c4, rfl, hR4, hb4⟩
      replace hR4 := hide hR4
      replace hb4 := hide hb4
      clear hglt
      go_wp2
      go_ret
      exact ⟨_, _, rfl, hR4.out, (below_drewN hb.out q).trans (hb4.out.mono (hb.out.size))⟩
end
end Go.Proofs.Ytdihgmbldnekhaa
