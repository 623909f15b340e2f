/-
  normal of the laws of ratio.
-/
import Derived.Test.YtieopcchchebgaaRat3
namespace Go.Proofs.Ytieopcchchebgaa
open Go.RowKit


theorem gcd1_any {w : World} {Bd : Nat} {A A' : Option Addr} {n c n' c' : Nat} {xs ys : List Nat} (hx : Rd w Bd A n c xs) (hy : Rd w Bd A' n' c' ys) (hB : Bd ≤ w.heap.size) (hn : n + 1 ≤ 70368744177664) (hn' : n' + 1 ≤ 70368744177664) (hg : Nat.gcd (val xs) (val ys) = 1) :
    Calls Try.prog 87 #[.slice A n c, .slice A' n' c'] w (fun e w' => ∃ A c, e = .returned (.slice (some A) 1 c) ∧ Rd w' w'.heap.size (some A) 1 c [1] ∧ Below w.heap.size w w') :=
  (gcd_any w Bd A A' n c n' c' xs ys hx hy hB hn hn').mono fun e w' h => by
    rw [hg] at h
    obtain ⟨A, c, rfl, R, hb⟩ := h
    rw [dig_one] at *
    obtain ⟨ad, rfl, _, _⟩ := R.at_ (k := 0) (by simp)
    exact ⟨ad, c, rfl, R, hb⟩

set_option maxHeartbeats 4000000 in
theorem normal_0 {w : World} {Bd : Nat} {A_a A_ad : Option Addr} {c_a c_ad : Nat} (h_ad : Rd w Bd A_ad 1 c_ad [1]) (hB : Bd ≤ w.heap.size) :
    Calls Try.prog 45 #[.agg #[.bool false, .slice A_a 0 c_a, .slice A_ad 1 c_ad]] w (RetB w (.bool true)) := by
  obtain ⟨ad, hA, hadb, hca⟩ := h_ad.at_ (k := 0) (by omega)
  subst hA
  have hcap := h_ad.cap
  rw [show ((lm [1] 0 : Nat) : Int) = 1 from rfl] at hca
  have hBB := hB
  obtain ⟨W, hW⟩ : ∃ W, W = (w.alloc (.cells #[.bool false, .slice A_a 0 c_a, .slice (some ad) 1 c_ad] 27)) := ⟨_, rfl⟩
  have b_a : Box3 W (w.heap.size) (.bool false) (.slice A_a 0 c_a) (.slice (some ad) 1 c_ad) := by rw [hW]; exact (Box3.new w _ _ _ rfl)
  have hwW : Below w.heap.size w W := by rw [hW]; exact ((Below.refl _ _).alloc (Nat.le_refl _) _)
  have R_ad := hide (Rd.upto h_ad hwW hB)
  clear h_ad
  have B := hide hwW
  clear hwW
  clear hB
  have U0 : Below W.heap.size W W := Below.refl _ _
  have c_a0 := b_a.at0 b_a.lt_size (Nat.le_refl _)
  have c_a1 := b_a.at1 b_a.lt_size (Nat.le_refl _)
  have c_a2 := b_a.at2 b_a.lt_size (Nat.le_refl _)
  replace b_a := hide b_a
  replace hca : W.cell? ad = some (.int .u32 1) := (B.out.cell (p := ad.add 0) (Nat.lt_of_lt_of_le (by rw [block_add]; exact hadb) hBB)).trans hca
  rw [hW] at hca
  go_enter Try.func45, Try.ntmps45
  go_wp2
  rw [← hW]
  go_ret
  exact ⟨rfl, B.out⟩

set_option maxHeartbeats 4000000 in
theorem normal_1 {w : World} {Bd : Nat} {A_a : Option Addr} {n_a c_a : Nat} {x_a : List Nat} {s_a : Bool} {A_ad : Option Addr} {n_ad c_ad : Nat} {x_ad : List Nat} (h_a : Rd w Bd A_a n_a c_a x_a) (g_a : n_a ≤ 10000000000) (h_ad : Rd w Bd A_ad n_ad c_ad x_ad) (g_ad : n_ad ≤ 10000000000) (hB : Bd ≤ w.heap.size) (hn : 0 < n_a) (hm : 0 < n_ad) (hx : lm x_a (n_a - 1) ≠ 0) (hy : lm x_ad (n_ad - 1) ≠ 0) (hg : Nat.gcd (val x_a) (val x_ad) = 1) :
    Calls Try.prog 45 #[.agg #[.bool s_a, .slice A_a n_a c_a, .slice A_ad n_ad c_ad]] w (RetB w (.bool true)) := by
  obtain ⟨ad, hA, hadb, hca⟩ := h_ad.at_ (k := n_ad - 1) (by omega)
  subst hA
  obtain ⟨aa, hA, haab, hcb⟩ := h_a.at_ (k := n_a - 1) (by omega)
  subst hA
  have hcap := h_ad.cap
  have hcap' := h_a.cap
  have hbig := h_ad.big
  have hbig' := h_a.big
  have hy0 : ((lm x_ad (n_ad - 1) : Int) == 0) = false := by simpa using hy
  have hx0 : ((lm x_a (n_a - 1) : Int) != 0) = true := by simpa using hx
  replace hg := hide hg
  clear hx hy
  have g1 : n_a + 1 ≤ 70368744177664 := by omega
  replace g1 := hide g1
  have g2 : n_ad + 1 ≤ 70368744177664 := by omega
  replace g2 := hide g2
  have hBB := hB
  obtain ⟨W, hW⟩ : ∃ W, W = (w.alloc (.cells #[.bool s_a, .slice (some aa) n_a c_a, .slice (some ad) n_ad c_ad] 27)) := ⟨_, rfl⟩
  have b_a : Box3 W (w.heap.size) (.bool s_a) (.slice (some aa) n_a c_a) (.slice (some ad) n_ad c_ad) := by rw [hW]; exact (Box3.new w _ _ _ rfl)
  have hwW : Below w.heap.size w W := by rw [hW]; exact ((Below.refl _ _).alloc (Nat.le_refl _) _)
  have R_a := hide (Rd.upto h_a hwW hB)
  clear h_a
  have R_ad := hide (Rd.upto h_ad hwW hB)
  clear h_ad
  have B := hide hwW
  clear hwW
  clear hB
  have U0 : Below W.heap.size W W := Below.refl _ _
  have c_a0 := b_a.at0 b_a.lt_size (Nat.le_refl _)
  have c_a1 := b_a.at1 b_a.lt_size (Nat.le_refl _)
  have c_a2 := b_a.at2 b_a.lt_size (Nat.le_refl _)
  replace b_a := hide b_a
  replace hca := (B.out.cell (p := ad.add (n_ad - 1)) (Nat.lt_of_lt_of_le (by rw [block_add]; exact hadb) hBB)).trans hca
  rw [hW] at hca
  go_enter Try.func45, Try.ntmps45
  go_wp2_with fail
  rw [← hW]
  clear hW
  refine (gcd1_any R_a.out R_ad.out (Nat.le_refl _) g1.out g2.out hg.out).mono ?_
  rintro e w1 ⟨ag, c_g, rfl, R_g, hb⟩
  replace R_a := hide (Rd.then_ R_a.out hb)
  replace R_ad := hide (Rd.then_ R_ad.out hb)
  have U1 : Below W.heap.size W w1 := Below.then_ U0 hb
  replace B := hide (Below.then_ B.out hb)
  clear hb
  obtain ⟨aa', hA, haab', hcb'⟩ := R_a.out.at_ (k := n_a - 1) (by omega)
  cases hA
  obtain ⟨ag', hA, hagb', hcg'⟩ := R_g.at_ (k := 0) (by omega)
  cases hA
  have hcapg := R_g.cap
  rw [show ((lm [1] 0 : Nat) : Int) = 1 from rfl] at hcg'
  replace hcg' : w1.cell? ag = some (.int .u32 1) := hcg'
  replace R_g := hide R_g
  clear hca hcb
  go_wp2
  go_ret
  exact ⟨rfl, B.out⟩

theorem normal_any {w : World} {Bd : Nat} {A_a A_ad : Option Addr} {c_a c_ad : Nat} {q : Rat} (h_a : Rd w Bd A_a (dig (zmag q.num)).length c_a (dig (zmag q.num))) (g_a : (dig (zmag q.num)).length ≤ 10000000000) (h_ad : Rd w Bd A_ad (dig q.den).length c_ad (dig q.den)) (g_ad : (dig q.den).length ≤ 10000000000) (hB : Bd ≤ w.heap.size) :
    Calls Try.prog 45 #[.agg #[.bool (zneg q.num), .slice A_a (dig (zmag q.num)).length c_a, .slice A_ad (dig q.den).length c_ad]] w (RetB w (.bool true)) := by
  by_cases h0 : q.num = 0
  · have hq : q = 0 := Rat.num_eq_zero.1 h0
    subst hq
    rw [q0num, q0den] at *
    rw [dig_one] at *
    rw [show zmag 0 = 0 from rfl, dig_zero] at *
    exact normal_0 h_ad hB
  · have h1 : zmag q.num ≠ 0 := by unfold zmag; omega
    have h2 := q.den_nz
    have l1 := mt dig_len_zero.1 h1
    have l2 := mt dig_len_zero.1 h2
    exact normal_1 h_a g_a h_ad g_ad hB (by omega) (by omega) (dig_top (by omega)) (dig_top (by omega)) (by rw [val_dig, val_dig]; exact q.reduced)

end Go.Proofs.Ytieopcchchebgaa
