/-
  high, and the walk of examboardlaw01.NatForms.
-/
import Derived.Test.YtfkkpcdicclahaaAwake
import Derived.Test.YtfkkpcdicclahaaDivGcd
import Derived.Test.YtfkkpcdicclahaaLawMath
namespace Go.Proofs.Ytfkkpcdicclahaa
open Go.RowKit


def RetHigh (w : World) (n k : Nat) (xs : List Nat) (e : Ending) (w' : World) : Prop :=
  ∃ A c L, e = .returned (.slice A (n + k) c) ∧ val L = val xs ∧ Rd w' w'.heap.size A (n + k) c L ∧ Below w.heap.size w w'
theorem val_zeros {xs : List Nat} (k : Nat) : val (xs ++ List.replicate k 0) = val xs := by
  have e := val_split (xs ++ List.replicate k 0) (k := xs.length) (by simp)
  have h1 : vl (xs ++ List.replicate k 0) xs.length = val xs := vl_congr fun j hj => by rw [lm_append, if_pos hj]
  have h2 : val (List.replicate k 0) = 0 := vl_zeros _ _
  rw [List.drop_left, h1, h2] at e
  omega
set_option maxHeartbeats 1000000 in
theorem high_any (w : World) (Bd : Nat) (A : Option Addr) (n c : Nat) (xs : List Nat) (h : Rd w Bd A n c xs) (hB : Bd ≤ w.heap.size) (hn : n ≤ 35184372088832) (k : Nat) (hk : k ≤ 255) :
    Calls Try.prog 40 #[.slice A n c, .int .u8 (k : Int)] w (RetHigh w n k xs) := by
  have hl := h.len
  have H := hide h
  clear h
  replace hl := hide hl
  go_enter Try.func40, Try.ntmps40
  go_wp2_with (first
    | (at_make; refine wpList_make_nat _ rfl _ _ rfl _ _ _ _ (n + k) rfl rfl (by omega) (by omega) (by omega) ?_; intro w1 hown hb hlt)
    | (with_reducible refine wpList_copy_nat rfl (.tmp 12) (.tmp 13) rfl _ _ _ _ _ _ rfl rfl _ xs _ hown (by simp) (H.out.below (hb.mono hB)) (by omega) _ _ hb (Nat.le_refl _) ?_; intro w2 hown2 hb2))
  go_ret
  have e : xs ++ List.drop n (List.replicate (n + k) 0) = xs ++ List.replicate k 0 := by rw [List.drop_replicate, Nat.add_sub_cancel_left]
  rw [e] at hown2
  have hlen : (xs ++ List.replicate k 0).length = n + k := by rw [List.length_append, List.length_replicate, hl.out]
  have hR := hown2.rd0 (c := n + k) (by omega) (by omega) hown2.lt
  rw [hlen] at hR
  exact ⟨_, _, _, rfl, val_zeros k, hR, hb2⟩

set_option maxHeartbeats 8000000 in
theorem forms_walk (w : World) (Aa : Option Addr) (na ca : Nat) (xa : List Nat) (Ab : Option Addr) (nb cb : Nat) (xb : List Nat) (ha : Rd w w.heap.size Aa na ca xa) (ka : na ≤ 1048576) (hb : Rd w w.heap.size Ab nb cb xb) (kb : nb ≤ 1048576) (ka8 kb8 : Nat) (hk1 : ka8 ≤ 255) (hk2 : kb8 ≤ 255) :
    Calls Try.prog 11 #[.slice Aa na ca, .slice Ab nb cb, .int .u8 (ka8 : Int), .int .u8 (kb8 : Int)] w fun e w' => e = .returned (.bool true) ∧ Below w.heap.size w w' := by
  obtain ⟨K, hK⟩ : ∃ K, K = 1048576 := ⟨_, rfl⟩
  have va : val xa < pw K := by have h1 := val_lt ha.limbs; have h2 := pw_mono (show xa.length ≤ K by have := ha.len; omega); omega
  have vb : val xb < pw K := by have h1 := val_lt hb.limbs; have h2 := pw_mono (show xb.length ≤ K by have := hb.len; omega); omega
  have R_a := hide ha
  clear ha
  replace va := hide va
  have R_b := hide hb
  clear hb
  replace vb := hide vb
  have hKle : K ≤ 1048576 := by omega
  clear hK
  have B := hide (Below.refl w.heap.size w)
  go_enter Try.func11, Try.ntmps11
  go_wp2_with fail
  refine (high_any w w.heap.size Aa na ca xa R_a.out (Nat.le_refl _) (by omega) ka8 (by omega)).mono ?_
  rintro e w1 ⟨A_x, c_x, L_x, rfl, hvx, R_x, hb⟩
  obtain ⟨n_x, hn⟩ : ∃ n_x, n_x = na + ka8 := ⟨_, rfl⟩
  have l_x : n_x ≤ 8388608 := by omega
  rw [← hn] at R_x ⊢
  clear hn
  replace hvx := hide hvx
  replace R_a := hide ((R_a.out.below hb).more hb.size)
  replace R_b := hide ((R_b.out.below hb).more hb.size)
  replace B := hide (B.out.trans (hb.mono B.out.size))
  clear hb
  replace R_x := hide R_x
  go_wp2_with fail
  refine (high_any w1 w1.heap.size Ab nb cb xb R_b.out (Nat.le_refl _) (by omega) kb8 (by omega)).mono ?_
  rintro e w2 ⟨A_y, c_y, L_y, rfl, hvy, R_y, hb⟩
  obtain ⟨n_y, hn⟩ : ∃ n_y, n_y = nb + kb8 := ⟨_, rfl⟩
  have l_y : n_y ≤ 8388608 := by omega
  rw [← hn] at R_y ⊢
  clear hn
  replace hvy := hide hvy
  replace R_a := hide ((R_a.out.below hb).more hb.size)
  replace R_b := hide ((R_b.out.below hb).more hb.size)
  replace R_x := hide ((R_x.out.below hb).more hb.size)
  replace B := hide (B.out.trans (hb.mono B.out.size))
  clear hb
  replace R_y := hide R_y
  have hc : Calls Try.prog 26 #[.slice Aa na ca, .slice Ab nb cb] w2 (RetNat w2 (val xa + val xb)) := by
    have := add_any w2 w2.heap.size Aa Ab na ca nb cb _ _ R_a.out R_b.out (Nat.le_refl _) (by omega) (by omega)
    repeat (first | rw [val_dig] at this | rw [hvx.out] at this | rw [hvy.out] at this)
    exact this
  replace hc := hide hc
  go_wp2_with fail
  refine hc.out.mono ?_
  clear hc
  rintro e w3 ⟨A_s1, c_s1, rfl, R_s1, hb⟩
  have l_s1 : (dig (val xa + val xb)).length ≤ 8388608 := by have := (dig_len_le _ _).2 (lt_add va.out vb.out); omega
  obtain ⟨n_s1, hn⟩ : ∃ n_s1, n_s1 = (dig (val xa + val xb)).length := ⟨_, rfl⟩
  rw [← hn] at R_s1 l_s1 ⊢
  clear hn
  replace R_a := hide ((R_a.out.below hb).more hb.size)
  replace R_b := hide ((R_b.out.below hb).more hb.size)
  replace R_x := hide ((R_x.out.below hb).more hb.size)
  replace R_y := hide ((R_y.out.below hb).more hb.size)
  replace B := hide (B.out.trans (hb.mono B.out.size))
  clear hb
  replace R_s1 := hide R_s1
  have hc : Calls Try.prog 26 #[.slice A_x n_x c_x, .slice A_y n_y c_y] w3 (RetNat w3 (val xa + val xb)) := by
    have := add_any w3 w3.heap.size A_x A_y n_x c_x n_y c_y _ _ R_x.out R_y.out (Nat.le_refl _) (by omega) (by omega)
    repeat (first | rw [val_dig] at this | rw [hvx.out] at this | rw [hvy.out] at this)
    exact this
  replace hc := hide hc
  go_wp2_with fail
  refine hc.out.mono ?_
  clear hc
  rintro e w4 ⟨A_s2, c_s2, rfl, R_s2, hb⟩
  have l_s2 : (dig (val xa + val xb)).length ≤ 8388608 := by have := (dig_len_le _ _).2 (lt_add va.out vb.out); omega
  obtain ⟨n_s2, hn⟩ : ∃ n_s2, n_s2 = (dig (val xa + val xb)).length := ⟨_, rfl⟩
  rw [← hn] at R_s2 l_s2 ⊢
  clear hn
  replace R_a := hide ((R_a.out.below hb).more hb.size)
  replace R_b := hide ((R_b.out.below hb).more hb.size)
  replace R_x := hide ((R_x.out.below hb).more hb.size)
  replace R_y := hide ((R_y.out.below hb).more hb.size)
  replace R_s1 := hide ((R_s1.out.below hb).more hb.size)
  replace B := hide (B.out.trans (hb.mono B.out.size))
  clear hb
  replace R_s2 := hide R_s2
  have hc := hide (same_true w4 w4.heap.size w4.heap.size A_s1 A_s2 n_s1 c_s1 n_s2 c_s2 _ _ R_s1.out R_s2.out (rfl))
  go_wp2_with fail
  refine hc.out.mono ?_
  clear hc
  rintro e w' ⟨rfl, q, rfl⟩
  have hb : Below w4.heap.size w4 (w4.drewN q) := below_drewN (Below.refl _ _) q
  generalize w4.drewN q = w5 at *
  replace R_a := hide ((R_a.out.below hb).more hb.size)
  replace R_b := hide ((R_b.out.below hb).more hb.size)
  replace R_x := hide ((R_x.out.below hb).more hb.size)
  replace R_y := hide ((R_y.out.below hb).more hb.size)
  replace R_s1 := hide ((R_s1.out.below hb).more hb.size)
  replace R_s2 := hide ((R_s2.out.below hb).more hb.size)
  replace B := hide (B.out.trans (hb.mono B.out.size))
  clear hb
  clear R_s1
  clear R_s2
  have hc : Calls Try.prog 28 #[.slice Aa na ca, .slice Ab nb cb] w5 (RetNat w5 (val xa * val xb)) := by
    have := mul_any w5 w5.heap.size Aa Ab na ca nb cb _ _ R_a.out R_b.out (Nat.le_refl _) (by omega)
    repeat (first | rw [val_dig] at this | rw [hvx.out] at this | rw [hvy.out] at this)
    exact this
  replace hc := hide hc
  go_wp2_with fail
  refine hc.out.mono ?_
  clear hc
  rintro e w6 ⟨A_s3, c_s3, rfl, R_s3, hb⟩
  have l_s3 : (dig (val xa * val xb)).length ≤ 8388608 := by have := (dig_len_le _ _).2 (lt_mul va.out vb.out); omega
  obtain ⟨n_s3, hn⟩ : ∃ n_s3, n_s3 = (dig (val xa * val xb)).length := ⟨_, rfl⟩
  rw [← hn] at R_s3 l_s3 ⊢
  clear hn
  replace R_a := hide ((R_a.out.below hb).more hb.size)
  replace R_b := hide ((R_b.out.below hb).more hb.size)
  replace R_x := hide ((R_x.out.below hb).more hb.size)
  replace R_y := hide ((R_y.out.below hb).more hb.size)
  replace B := hide (B.out.trans (hb.mono B.out.size))
  clear hb
  replace R_s3 := hide R_s3
  have hc : Calls Try.prog 28 #[.slice A_x n_x c_x, .slice A_y n_y c_y] w6 (RetNat w6 (val xa * val xb)) := by
    have := mul_any w6 w6.heap.size A_x A_y n_x c_x n_y c_y _ _ R_x.out R_y.out (Nat.le_refl _) (by omega)
    repeat (first | rw [val_dig] at this | rw [hvx.out] at this | rw [hvy.out] at this)
    exact this
  replace hc := hide hc
  go_wp2_with fail
  refine hc.out.mono ?_
  clear hc
  rintro e w7 ⟨A_s4, c_s4, rfl, R_s4, hb⟩
  have l_s4 : (dig (val xa * val xb)).length ≤ 8388608 := by have := (dig_len_le _ _).2 (lt_mul va.out vb.out); omega
  obtain ⟨n_s4, hn⟩ : ∃ n_s4, n_s4 = (dig (val xa * val xb)).length := ⟨_, rfl⟩
  rw [← hn] at R_s4 l_s4 ⊢
  clear hn
  replace R_a := hide ((R_a.out.below hb).more hb.size)
  replace R_b := hide ((R_b.out.below hb).more hb.size)
  replace R_x := hide ((R_x.out.below hb).more hb.size)
  replace R_y := hide ((R_y.out.below hb).more hb.size)
  replace R_s3 := hide ((R_s3.out.below hb).more hb.size)
  replace B := hide (B.out.trans (hb.mono B.out.size))
  clear hb
  replace R_s4 := hide R_s4
  have hc := hide (same_true w7 w7.heap.size w7.heap.size A_s3 A_s4 n_s3 c_s3 n_s4 c_s4 _ _ R_s3.out R_s4.out (rfl))
  go_wp2_with fail
  refine hc.out.mono ?_
  clear hc
  rintro e w' ⟨rfl, q, rfl⟩
  have hb : Below w7.heap.size w7 (w7.drewN q) := below_drewN (Below.refl _ _) q
  generalize w7.drewN q = w8 at *
  replace R_a := hide ((R_a.out.below hb).more hb.size)
  replace R_b := hide ((R_b.out.below hb).more hb.size)
  replace R_x := hide ((R_x.out.below hb).more hb.size)
  replace R_y := hide ((R_y.out.below hb).more hb.size)
  replace R_s3 := hide ((R_s3.out.below hb).more hb.size)
  replace R_s4 := hide ((R_s4.out.below hb).more hb.size)
  replace B := hide (B.out.trans (hb.mono B.out.size))
  clear hb
  clear R_s3
  clear R_s4
  have hc : Calls Try.prog 16 #[.slice Aa na ca, .slice Ab nb cb] w8 (RetQ w8 (.int .i64 (cmpN (val xa) (val xb)))) := by
    have := cmp_any w8 w8.heap.size Aa Ab na ca nb cb _ _ R_a.out R_b.out
    rw [show cmpN (val xa) (val xb) = cmpN (val xa) (val xb) from rfl] at this
    exact this
  replace hc := hide hc
  go_wp2_with fail
  refine hc.out.mono ?_
  clear hc
  rintro e w' ⟨rfl, q, rfl⟩
  have hb : Below w8.heap.size w8 (w8.drewN q) := below_drewN (Below.refl _ _) q
  generalize w8.drewN q = w9 at *
  replace R_a := hide ((R_a.out.below hb).more hb.size)
  replace R_b := hide ((R_b.out.below hb).more hb.size)
  replace R_x := hide ((R_x.out.below hb).more hb.size)
  replace R_y := hide ((R_y.out.below hb).more hb.size)
  replace B := hide (B.out.trans (hb.mono B.out.size))
  clear hb
  have hc : Calls Try.prog 16 #[.slice A_x n_x c_x, .slice A_y n_y c_y] w9 (RetQ w9 (.int .i64 (cmpN (val xa) (val xb)))) := by
    have := cmp_any w9 w9.heap.size A_x A_y n_x c_x n_y c_y _ _ R_x.out R_y.out
    rw [hvx.out, hvy.out] at this
    exact this
  replace hc := hide hc
  go_wp2_with fail
  refine hc.out.mono ?_
  clear hc
  rintro e w' ⟨rfl, q, rfl⟩
  have hb : Below w9.heap.size w9 (w9.drewN q) := below_drewN (Below.refl _ _) q
  generalize w9.drewN q = w10 at *
  replace R_a := hide ((R_a.out.below hb).more hb.size)
  replace R_b := hide ((R_b.out.below hb).more hb.size)
  replace R_x := hide ((R_x.out.below hb).more hb.size)
  replace R_y := hide ((R_y.out.below hb).more hb.size)
  replace B := hide (B.out.trans (hb.mono B.out.size))
  clear hb
  generalize cmpN (val xa) (val xb) = zc at *
  have hc : Calls Try.prog 14 #[.slice Aa na ca] w10 fun e w' => e = .returned (.int .i64 ((bl (val xa) : Int))) ∧ w10 = w' := by
    have := bits_any w10 w10.heap.size Aa na ca _ R_a.out
    rw [show bl (val xa) = bl (val xa) from rfl] at this
    exact this
  replace hc := hide hc
  go_wp2_with fail
  refine hc.out.mono ?_
  clear hc
  rintro e w' ⟨rfl, rfl⟩
  have hc : Calls Try.prog 14 #[.slice A_x n_x c_x] w10 fun e w' => e = .returned (.int .i64 ((bl (val xa) : Int))) ∧ w10 = w' := by
    have := bits_any w10 w10.heap.size A_x n_x c_x _ R_x.out
    rw [hvx.out] at this
    exact this
  replace hc := hide hc
  go_wp2_with fail
  refine hc.out.mono ?_
  clear hc
  rintro e w' ⟨rfl, rfl⟩
  have hc : Calls Try.prog 38 #[.slice Aa na ca] w10 fun e w' => e = .returned (.string (strN (dec (val xa)))) ∧ Below w10.heap.size w10 w' := by
    have := print_any w10 w10.heap.size Aa na ca _ R_a.out (Nat.le_refl _) (by omega)
    exact this
  replace hc := hide hc
  go_wp2_with fail
  refine hc.out.mono ?_
  clear hc
  rintro e w11 ⟨rfl, hb⟩
  replace R_a := hide ((R_a.out.below hb).more hb.size)
  replace R_b := hide ((R_b.out.below hb).more hb.size)
  replace R_x := hide ((R_x.out.below hb).more hb.size)
  replace R_y := hide ((R_y.out.below hb).more hb.size)
  replace B := hide (B.out.trans (hb.mono B.out.size))
  clear hb
  have hc : Calls Try.prog 38 #[.slice A_x n_x c_x] w11 fun e w' => e = .returned (.string (strN (dec (val xa)))) ∧ Below w11.heap.size w11 w' := by
    have := print_any w11 w11.heap.size A_x n_x c_x _ R_x.out (Nat.le_refl _) (by omega)
    rw [hvx.out] at this
    exact this
  replace hc := hide hc
  go_wp2_with fail
  refine hc.out.mono ?_
  clear hc
  rintro e w12 ⟨rfl, hb⟩
  replace R_a := hide ((R_a.out.below hb).more hb.size)
  replace R_b := hide ((R_b.out.below hb).more hb.size)
  replace R_x := hide ((R_x.out.below hb).more hb.size)
  replace R_y := hide ((R_y.out.below hb).more hb.size)
  replace B := hide (B.out.trans (hb.mono B.out.size))
  clear hb
  generalize strN (dec (val xa)) = sp at *
  by_cases h0 : val xb = 0
  · have _t : True := trivial
    have h0' := hide h0
    clear h0
    go_wp2_with fail
    refine (divmod_zero w12 w12.heap.size Aa Ab na ca nb cb _ _ R_a.out R_b.out (h0'.out)).mono ?_
    rintro e w' ⟨rfl, rfl⟩
    go_wp2_with fail
    refine (divmod_zero w12 w12.heap.size A_x A_y n_x c_x n_y c_y _ _ R_x.out R_y.out (hvy.out.trans h0'.out)).mono ?_
    rintro e w' ⟨rfl, rfl⟩
    go_wp2_with fail
    refine (same_true w12 0 0 none none 0 0 0 0 [] [] (Rd.empty _ _ _ (by omega)) (Rd.empty _ _ _ (by omega)) rfl).mono ?_
    rintro e w' ⟨rfl, q, rfl⟩
    have hb : Below w12.heap.size w12 (w12.drewN q) := below_drewN (Below.refl _ _) q
    generalize w12.drewN q = w13 at *
    replace R_a := hide ((R_a.out.below hb).more hb.size)
    replace R_b := hide ((R_b.out.below hb).more hb.size)
    replace R_x := hide ((R_x.out.below hb).more hb.size)
    replace R_y := hide ((R_y.out.below hb).more hb.size)
    replace B := hide (B.out.trans (hb.mono B.out.size))
    clear hb
    go_wp2_with fail
    refine (same_true w13 0 0 none none 0 0 0 0 [] [] (Rd.empty _ _ _ (by omega)) (Rd.empty _ _ _ (by omega)) rfl).mono ?_
    rintro e w' ⟨rfl, q, rfl⟩
    have hb : Below w13.heap.size w13 (w13.drewN q) := below_drewN (Below.refl _ _) q
    generalize w13.drewN q = w14 at *
    replace R_a := hide ((R_a.out.below hb).more hb.size)
    replace R_b := hide ((R_b.out.below hb).more hb.size)
    replace R_x := hide ((R_x.out.below hb).more hb.size)
    replace R_y := hide ((R_y.out.below hb).more hb.size)
    replace B := hide (B.out.trans (hb.mono B.out.size))
    clear hb
    have hc : Calls Try.prog 32 #[.slice Aa na ca, .slice Ab nb cb] w14 (RetNat w14 (Nat.gcd (val xa) (val xb))) := by
      have := gcd_any w14 w14.heap.size Aa Ab na ca nb cb _ _ R_a.out R_b.out (Nat.le_refl _) (by omega) (by omega)
      repeat (first | rw [val_dig] at this | rw [hvx.out] at this | rw [hvy.out] at this)
      exact this
    replace hc := hide hc
    go_wp2_with fail
    refine hc.out.mono ?_
    clear hc
    rintro e w15 ⟨A_g1, c_g1, rfl, R_g1, hb⟩
    have l_g1 : (dig (Nat.gcd (val xa) (val xb))).length ≤ 8388608 := by have := (dig_len_le _ _).2 (lt_gcd va.out vb.out); omega
    obtain ⟨n_g1, hn⟩ : ∃ n_g1, n_g1 = (dig (Nat.gcd (val xa) (val xb))).length := ⟨_, rfl⟩
    rw [← hn] at R_g1 l_g1 ⊢
    clear hn
    replace R_a := hide ((R_a.out.below hb).more hb.size)
    replace R_b := hide ((R_b.out.below hb).more hb.size)
    replace R_x := hide ((R_x.out.below hb).more hb.size)
    replace R_y := hide ((R_y.out.below hb).more hb.size)
    replace B := hide (B.out.trans (hb.mono B.out.size))
    clear hb
    replace R_g1 := hide R_g1
    have hc : Calls Try.prog 32 #[.slice A_x n_x c_x, .slice A_y n_y c_y] w15 (RetNat w15 (Nat.gcd (val xa) (val xb))) := by
      have := gcd_any w15 w15.heap.size A_x A_y n_x c_x n_y c_y _ _ R_x.out R_y.out (Nat.le_refl _) (by omega) (by omega)
      repeat (first | rw [val_dig] at this | rw [hvx.out] at this | rw [hvy.out] at this)
      exact this
    replace hc := hide hc
    go_wp2_with fail
    refine hc.out.mono ?_
    clear hc
    rintro e w16 ⟨A_g2, c_g2, rfl, R_g2, hb⟩
    have l_g2 : (dig (Nat.gcd (val xa) (val xb))).length ≤ 8388608 := by have := (dig_len_le _ _).2 (lt_gcd va.out vb.out); omega
    obtain ⟨n_g2, hn⟩ : ∃ n_g2, n_g2 = (dig (Nat.gcd (val xa) (val xb))).length := ⟨_, rfl⟩
    rw [← hn] at R_g2 l_g2 ⊢
    clear hn
    replace R_a := hide ((R_a.out.below hb).more hb.size)
    replace R_b := hide ((R_b.out.below hb).more hb.size)
    replace R_x := hide ((R_x.out.below hb).more hb.size)
    replace R_y := hide ((R_y.out.below hb).more hb.size)
    replace R_g1 := hide ((R_g1.out.below hb).more hb.size)
    replace B := hide (B.out.trans (hb.mono B.out.size))
    clear hb
    replace R_g2 := hide R_g2
    have hc := hide (same_true w16 w16.heap.size w16.heap.size A_g1 A_g2 n_g1 c_g1 n_g2 c_g2 _ _ R_g1.out R_g2.out (rfl))
    go_wp2_with fail
    refine hc.out.mono ?_
    clear hc
    rintro e w' ⟨rfl, q, rfl⟩
    have hb : Below w16.heap.size w16 (w16.drewN q) := below_drewN (Below.refl _ _) q
    generalize w16.drewN q = w17 at *
    replace R_a := hide ((R_a.out.below hb).more hb.size)
    replace R_b := hide ((R_b.out.below hb).more hb.size)
    replace R_x := hide ((R_x.out.below hb).more hb.size)
    replace R_y := hide ((R_y.out.below hb).more hb.size)
    replace R_g1 := hide ((R_g1.out.below hb).more hb.size)
    replace R_g2 := hide ((R_g2.out.below hb).more hb.size)
    replace B := hide (B.out.trans (hb.mono B.out.size))
    clear hb
    go_wp2_with fail
    refine (awake_any w17).mono ?_
    rintro e w18 ⟨rfl, hb⟩
    replace B := hide (B.out.trans (hb.mono B.out.size))
    clear hb
    go_wp2
    go_ret
    exact ⟨rfl, B.out⟩
  · have _t : True := trivial
    have h0' := hide h0
    clear h0
    have hc : Calls Try.prog 30 #[.slice Aa na ca, .slice Ab nb cb] w12 (RetDM w12 (val xa) (val xb)) := by
      have := divmod_any w12 w12.heap.size Aa Ab na ca nb cb _ _ R_a.out R_b.out (Nat.le_refl _) (by omega) (h0'.out)
      repeat (first | rw [val_dig] at this | rw [hvx.out] at this | rw [hvy.out] at this)
      exact this
    replace hc := hide hc
    go_wp2_with fail
    refine hc.out.mono ?_
    clear hc
    rintro e w13 ⟨A_q1, c_q1, A_r1, c_r1, rfl, R_q1, R_r1, hb⟩
    have l_q1 : (dig ((val xa) / (val xb))).length ≤ 8388608 := by have := (dig_len_le _ _).2 (Nat.lt_of_le_of_lt (Nat.div_le_self (val xa) (val xb)) va.out); omega
    obtain ⟨n_q1, hn⟩ : ∃ n_q1, n_q1 = (dig ((val xa) / (val xb))).length := ⟨_, rfl⟩
    rw [← hn] at R_q1 l_q1 ⊢
    clear hn
    have l_r1 : (dig ((val xa) % (val xb))).length ≤ 8388608 := by have := (dig_len_le _ _).2 (Nat.lt_of_le_of_lt (Nat.mod_le (val xa) (val xb)) va.out); omega
    obtain ⟨n_r1, hn⟩ : ∃ n_r1, n_r1 = (dig ((val xa) % (val xb))).length := ⟨_, rfl⟩
    rw [← hn] at R_r1 l_r1 ⊢
    clear hn
    replace R_a := hide ((R_a.out.below hb).more hb.size)
    replace R_b := hide ((R_b.out.below hb).more hb.size)
    replace R_x := hide ((R_x.out.below hb).more hb.size)
    replace R_y := hide ((R_y.out.below hb).more hb.size)
    replace B := hide (B.out.trans (hb.mono B.out.size))
    clear hb
    replace R_q1 := hide R_q1
    replace R_r1 := hide R_r1
    have hc : Calls Try.prog 30 #[.slice A_x n_x c_x, .slice A_y n_y c_y] w13 (RetDM w13 (val xa) (val xb)) := by
      have := divmod_any w13 w13.heap.size A_x A_y n_x c_x n_y c_y _ _ R_x.out R_y.out (Nat.le_refl _) (by omega) (by rw [hvy.out]; exact h0'.out)
      repeat (first | rw [val_dig] at this | rw [hvx.out] at this | rw [hvy.out] at this)
      exact this
    replace hc := hide hc
    go_wp2_with fail
    refine hc.out.mono ?_
    clear hc
    rintro e w14 ⟨A_q2, c_q2, A_r2, c_r2, rfl, R_q2, R_r2, hb⟩
    have l_q2 : (dig ((val xa) / (val xb))).length ≤ 8388608 := by have := (dig_len_le _ _).2 (Nat.lt_of_le_of_lt (Nat.div_le_self (val xa) (val xb)) va.out); omega
    obtain ⟨n_q2, hn⟩ : ∃ n_q2, n_q2 = (dig ((val xa) / (val xb))).length := ⟨_, rfl⟩
    rw [← hn] at R_q2 l_q2 ⊢
    clear hn
    have l_r2 : (dig ((val xa) % (val xb))).length ≤ 8388608 := by have := (dig_len_le _ _).2 (Nat.lt_of_le_of_lt (Nat.mod_le (val xa) (val xb)) va.out); omega
    obtain ⟨n_r2, hn⟩ : ∃ n_r2, n_r2 = (dig ((val xa) % (val xb))).length := ⟨_, rfl⟩
    rw [← hn] at R_r2 l_r2 ⊢
    clear hn
    replace R_a := hide ((R_a.out.below hb).more hb.size)
    replace R_b := hide ((R_b.out.below hb).more hb.size)
    replace R_x := hide ((R_x.out.below hb).more hb.size)
    replace R_y := hide ((R_y.out.below hb).more hb.size)
    replace R_q1 := hide ((R_q1.out.below hb).more hb.size)
    replace R_r1 := hide ((R_r1.out.below hb).more hb.size)
    replace B := hide (B.out.trans (hb.mono B.out.size))
    clear hb
    replace R_q2 := hide R_q2
    replace R_r2 := hide R_r2
    have hc := hide (same_true w14 w14.heap.size w14.heap.size A_q1 A_q2 n_q1 c_q1 n_q2 c_q2 _ _ R_q1.out R_q2.out (rfl))
    go_wp2_with fail
    refine hc.out.mono ?_
    clear hc
    rintro e w' ⟨rfl, q, rfl⟩
    have hb : Below w14.heap.size w14 (w14.drewN q) := below_drewN (Below.refl _ _) q
    generalize w14.drewN q = w15 at *
    replace R_a := hide ((R_a.out.below hb).more hb.size)
    replace R_b := hide ((R_b.out.below hb).more hb.size)
    replace R_x := hide ((R_x.out.below hb).more hb.size)
    replace R_y := hide ((R_y.out.below hb).more hb.size)
    replace R_q1 := hide ((R_q1.out.below hb).more hb.size)
    replace R_r1 := hide ((R_r1.out.below hb).more hb.size)
    replace R_q2 := hide ((R_q2.out.below hb).more hb.size)
    replace R_r2 := hide ((R_r2.out.below hb).more hb.size)
    replace B := hide (B.out.trans (hb.mono B.out.size))
    clear hb
    have hc := hide (same_true w15 w15.heap.size w15.heap.size A_r1 A_r2 n_r1 c_r1 n_r2 c_r2 _ _ R_r1.out R_r2.out (rfl))
    go_wp2_with fail
    refine hc.out.mono ?_
    clear hc
    rintro e w' ⟨rfl, q, rfl⟩
    have hb : Below w15.heap.size w15 (w15.drewN q) := below_drewN (Below.refl _ _) q
    generalize w15.drewN q = w16 at *
    replace R_a := hide ((R_a.out.below hb).more hb.size)
    replace R_b := hide ((R_b.out.below hb).more hb.size)
    replace R_x := hide ((R_x.out.below hb).more hb.size)
    replace R_y := hide ((R_y.out.below hb).more hb.size)
    replace R_q1 := hide ((R_q1.out.below hb).more hb.size)
    replace R_r1 := hide ((R_r1.out.below hb).more hb.size)
    replace R_q2 := hide ((R_q2.out.below hb).more hb.size)
    replace R_r2 := hide ((R_r2.out.below hb).more hb.size)
    replace B := hide (B.out.trans (hb.mono B.out.size))
    clear hb
    clear R_q1
    clear R_q2
    clear R_r1
    clear R_r2
    have hc : Calls Try.prog 32 #[.slice Aa na ca, .slice Ab nb cb] w16 (RetNat w16 (Nat.gcd (val xa) (val xb))) := by
      have := gcd_any w16 w16.heap.size Aa Ab na ca nb cb _ _ R_a.out R_b.out (Nat.le_refl _) (by omega) (by omega)
      repeat (first | rw [val_dig] at this | rw [hvx.out] at this | rw [hvy.out] at this)
      exact this
    replace hc := hide hc
    go_wp2_with fail
    refine hc.out.mono ?_
    clear hc
    rintro e w17 ⟨A_g1, c_g1, rfl, R_g1, hb⟩
    have l_g1 : (dig (Nat.gcd (val xa) (val xb))).length ≤ 8388608 := by have := (dig_len_le _ _).2 (lt_gcd va.out vb.out); omega
    obtain ⟨n_g1, hn⟩ : ∃ n_g1, n_g1 = (dig (Nat.gcd (val xa) (val xb))).length := ⟨_, rfl⟩
    rw [← hn] at R_g1 l_g1 ⊢
    clear hn
    replace R_a := hide ((R_a.out.below hb).more hb.size)
    replace R_b := hide ((R_b.out.below hb).more hb.size)
    replace R_x := hide ((R_x.out.below hb).more hb.size)
    replace R_y := hide ((R_y.out.below hb).more hb.size)
    replace B := hide (B.out.trans (hb.mono B.out.size))
    clear hb
    replace R_g1 := hide R_g1
    have hc : Calls Try.prog 32 #[.slice A_x n_x c_x, .slice A_y n_y c_y] w17 (RetNat w17 (Nat.gcd (val xa) (val xb))) := by
      have := gcd_any w17 w17.heap.size A_x A_y n_x c_x n_y c_y _ _ R_x.out R_y.out (Nat.le_refl _) (by omega) (by omega)
      repeat (first | rw [val_dig] at this | rw [hvx.out] at this | rw [hvy.out] at this)
      exact this
    replace hc := hide hc
    go_wp2_with fail
    refine hc.out.mono ?_
    clear hc
    rintro e w18 ⟨A_g2, c_g2, rfl, R_g2, hb⟩
    have l_g2 : (dig (Nat.gcd (val xa) (val xb))).length ≤ 8388608 := by have := (dig_len_le _ _).2 (lt_gcd va.out vb.out); omega
    obtain ⟨n_g2, hn⟩ : ∃ n_g2, n_g2 = (dig (Nat.gcd (val xa) (val xb))).length := ⟨_, rfl⟩
    rw [← hn] at R_g2 l_g2 ⊢
    clear hn
    replace R_a := hide ((R_a.out.below hb).more hb.size)
    replace R_b := hide ((R_b.out.below hb).more hb.size)
    replace R_x := hide ((R_x.out.below hb).more hb.size)
    replace R_y := hide ((R_y.out.below hb).more hb.size)
    replace R_g1 := hide ((R_g1.out.below hb).more hb.size)
    replace B := hide (B.out.trans (hb.mono B.out.size))
    clear hb
    replace R_g2 := hide R_g2
    have hc := hide (same_true w18 w18.heap.size w18.heap.size A_g1 A_g2 n_g1 c_g1 n_g2 c_g2 _ _ R_g1.out R_g2.out (rfl))
    go_wp2_with fail
    refine hc.out.mono ?_
    clear hc
    rintro e w' ⟨rfl, q, rfl⟩
    have hb : Below w18.heap.size w18 (w18.drewN q) := below_drewN (Below.refl _ _) q
    generalize w18.drewN q = w19 at *
    replace R_a := hide ((R_a.out.below hb).more hb.size)
    replace R_b := hide ((R_b.out.below hb).more hb.size)
    replace R_x := hide ((R_x.out.below hb).more hb.size)
    replace R_y := hide ((R_y.out.below hb).more hb.size)
    replace R_g1 := hide ((R_g1.out.below hb).more hb.size)
    replace R_g2 := hide ((R_g2.out.below hb).more hb.size)
    replace B := hide (B.out.trans (hb.mono B.out.size))
    clear hb
    go_wp2_with fail
    refine (awake_any w19).mono ?_
    rintro e w20 ⟨rfl, hb⟩
    replace B := hide (B.out.trans (hb.mono B.out.size))
    clear hb
    go_wp2
    go_ret
    exact ⟨rfl, B.out⟩

end Go.Proofs.Ytfkkpcdicclahaa
