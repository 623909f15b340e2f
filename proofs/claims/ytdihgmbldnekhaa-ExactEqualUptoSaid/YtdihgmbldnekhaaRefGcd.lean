/-
  The reference's Gcd.
-/
import Derived.Test.YtdihgmbldnekhaaRefQuo
import Derived.Test.YtdihgmbldnekhaaNatGcd
namespace Go.Proofs.Ytdihgmbldnekhaa
open Go.RowKit

set_option maxHeartbeats 2000000 in
theorem rgcd_any (w : World) (Bd : Nat) (A A' : Option Addr) (n c n' c' : Nat) (xs ys : List Nat) (hx : Rd w Bd A n c xs) (hy : Rd w Bd A' n' c' ys) (hB : Bd ≤ w.heap.size) (hn : n ≤ 35184372088000) (hn' : n' ≤ 35184372088000) :
    Calls Try.prog 126 #[.slice A n c, .slice A' n' c'] w (RetNat w (Nat.gcd (val xs) (val ys))) := by
  obtain ⟨N, hN1, hN2, hN3⟩ : ∃ N, n ≤ N ∧ n' ≤ N ∧ N ≤ 35184372088000 := ⟨max n n', by omega, by omega, by omega⟩
  have hl1 : (dig (val xs)).length ≤ n := by rw [← hx.len]; exact dig_len_val hx.limbs
  have hl2 : (dig (val ys)).length ≤ n' := by rw [← hy.len]; exact dig_len_val hy.limbs
  have H := hide hx
  have H' := hide hy
  clear hx hy
  go_enter Try.func126, Try.ntmps126
  go_wp2_with fail
  refine (rnorm_any _ Bd A n c xs H.out hB).mono ?_
  rintro e w1 ⟨rfl, hO1, hb1, hlm1⟩
  obtain ⟨m1, hm1⟩ : ∃ m1, m1 = (dig (val xs)).length := ⟨_, rfl⟩
  rw [← hm1] at hlm1 hl1 ⊢
  have hs1 : w.heap.size < w1.heap.size := hO1.lt
  replace hm1 := hide hm1
  replace hO1 := hide hO1
  replace hb1 := hide hb1
  go_wp2_with fail
  refine (rnorm_any _ Bd A' n' c' ys (H'.out.below (hb1.out.mono hB)) (by omega)).mono ?_
  rintro e w2 ⟨rfl, hO2, hb2, hlm2⟩
  obtain ⟨m2, hm2⟩ : ∃ m2, m2 = (dig (val ys)).length := ⟨_, rfl⟩
  rw [← hm2] at hlm2 hl2 ⊢
  have hs2 : w1.heap.size < w2.heap.size := hO2.lt
  have hR1 := hide (by have := (hO1.out.below hb2 hs1).rd0 (c := m1) (by rw [hm1.out]; exact Nat.le_refl _) hlm1 (B := w2.heap.size) (by omega); rw [← hm1.out] at this; exact this)
  have hR2 := hide (by have := hO2.rd0 (c := m2) (by rw [hm2]; exact Nat.le_refl _) hlm2 (B := w2.heap.size) hs2; rw [← hm2] at this; exact this)
  replace hb2 := hide (hb1.out.trans (hb2.mono (by omega)))
  replace hm2 := hide hm2
  clear hO2
  generalize w1.heap.size = g2 at *
  have hstart := hide (show GcdRel w (Nat.gcd (val xs) (val ys)) N (val xs) (val ys) (some ⟨w.heap.size, 0, none⟩) m1 m1 (some ⟨g2, 0, none⟩) m2 m2 w2 from ⟨rfl, hm1.out, hm2.out, by omega, by omega, hR1.out, hR2.out, hb2.out⟩)
  clear hO1 hR1 hR2
  go_wp2_with fail
  go_loopg [0, 1] (val ys) (fun k x y wr => ∃ (a : Nat) (A1 : Option Addr) (n1 c1 : Nat) (A2 : Option Addr) (n2 c2 : Nat), x = .slice A1 n1 c1 ∧ y = .slice A2 n2 c2 ∧ GcdRel w (Nat.gcd (val xs) (val ys)) N a k A1 n1 c1 A2 n2 c2 wr)
  case atStart => exact ⟨val xs, _, _, _, _, _, _, rfl, rfl, hstart.out⟩
  case round =>
    obtain ⟨a, A1, n1, c1, A2, n2, c2, rfl, rfl, hg, hn1, hn2, hN4, hN5, hR1, hR2, hb⟩ := hrel
    by_cases hz : n2 = 0
    · have hk0 : gk = 0 := dig_len_zero.1 (by omega)
      have hga : a = Nat.gcd (val xs) (val ys) := by rw [← hg, hk0, Nat.gcd_zero_right]
      have hgh := hide hga
      have hn1h := hide hn1
      replace hR1 := hide hR1
      replace hb := hide hb
      subst hz
      clear hg hk0 hga hR2 hn1 hn2
      go_wp2
      go_ret
      rw [RetNat, ← hgh.out]
      exact ⟨A1, c1, by rw [← hn1h.out]; rfl, by rw [← hn1h.out]; exact hR1.out, hb.out⟩
    · have hk0 : gk ≠ 0 := by
        rintro rfl
        rw [dig_zero] at hn2
        simp at hn2
        exact hz hn2
      have hml : (dig (a % gk)).length ≤ N := by
        have := dig_len_mono (Nat.le_of_lt (Nat.mod_lt a (Nat.pos_of_ne_zero hk0)))
        omega
      have hgg : Nat.gcd gk (a % gk) = Nat.gcd (val xs) (val ys) := by
        rw [← hg, Nat.gcd_comm gk, ← Nat.gcd_rec, Nat.gcd_comm]
      have hpos : 0 < n2 := by omega
      have hml' := hide hml
      have hgg' := hide hgg
      have hk0' := hide hk0
      have hn1' := hide hn1
      have hn2' := hide hn2
      replace hR1 := hide hR1
      replace hR2 := hide hR2
      replace hb := hide hb
      clear hg hk0 hml hgg hn1 hn2 hz
      go_wp2_with fail
      refine (rdivmod_any wr wr.heap.size A1 A2 n1 c1 n2 c2 (dig a) (dig gk) hR1.out hR2.out (Nat.le_refl _) (by omega) (by rw [val_dig]; exact hk0'.out)).mono ?_
      rintro e w3 ⟨A3, c3, A4, c4, rfl, hR3, hR4, hb3⟩
      rw [val_dig, val_dig] at hR4 ⊢
      have hR2' := hide ((hR2.out.below hb3).more hb3.size)
      have hb3' := hide (hb.out.trans (hb3.mono hb.out.size))
      replace hR4 := hide hR4
      clear hR3 hb3
      go_wp2
      go_roundg (a % gk)
      case measure => exact Nat.mod_lt _ (Nat.pos_of_ne_zero hk0'.out)
      case rel => exact ⟨gk, A2, n2, c2, A4, (dig (a % gk)).length, c4, rfl, rfl, hgg'.out, hn2'.out, rfl, by omega, hml'.out, hR2'.out, hR4.out, hb3'.out⟩

end Go.Proofs.Ytdihgmbldnekhaa
