/-
  awake: the chapter's examples.
-/
import Derived.Test.YtfkkpcdicclahaaAdd
import Derived.Test.YtfkkpcdicclahaaDivS
import Derived.Test.YtfkkpcdicclahaaPow
import Derived.Test.YtfkkpcdicclahaaGcdS
import Derived.Test.YtfkkpcdicclahaaPrint
import Derived.Test.YtfkkpcdicclahaaParse2
import Derived.Test.YtfkkpcdicclahaaSame
import Derived.Test.YtfkkpcdicclahaaBits
namespace Go.Proofs.Ytfkkpcdicclahaa
open Go.RowKit

/-- the string of the first example -/
def big : ByteArray := ⟨#[49, 56, 52, 52, 54, 55, 52, 52, 48, 55, 51, 55, 48, 57, 53, 53, 49, 54, 49, 54]⟩
theorem big_num : IsNum big := by
  refine ⟨?_, by decide, by decide⟩
  intro k hk
  have : k < 20 := hk
  revert k
  decide
theorem big_val : dvp big big.size = 18446744073709551616 := by decide
theorem big_dig : dig 18446744073709551616 = [0, 0, 1] := by simp [dig]
theorem Rd.lit1 (w : World) (x : Nat) (hx : x < 4294967296) {u : Int} (hu : u = (x : Int) := by rfl) : Rd (w.alloc (Obj.cells #[Value.int IntKind.u32 u] 54)) (w.heap.size + 1) (some ⟨w.heap.size, 0, none⟩) 1 1 [x] := by
  subst hu
  refine ⟨rfl, Limbs_cons hx Limbs_nil, by omega, by omega, by omega, fun _ => ⟨_, rfl, by simp, fun j hj => ?_⟩⟩
  obtain rfl : j = 0 := by omega
  rw [Addr.add_lit, cell_of_row _ w.heap.size _ _ _ (0, 0) (heap_alloc_new w _)]
  rfl
theorem Rd.lit3 (w : World) : Rd (w.alloc (Obj.cells #[Value.int IntKind.u32 7, Value.int IntKind.u32 0, Value.int IntKind.u32 0] 54)) (w.heap.size + 1) (some ⟨w.heap.size, 0, none⟩) 3 3 [7, 0, 0] := by
  refine ⟨rfl, Limbs_cons (by omega) (Limbs_cons (by omega) (Limbs_cons (by omega) Limbs_nil)), by omega, by omega, by omega, fun _ => ⟨_, rfl, by simp, fun j hj => ?_⟩⟩
  rw [Addr.add_lit, cell_of_row _ w.heap.size _ _ _ (0, 0) (heap_alloc_new w _)]
  rcases (show j = 0 ∨ j = 1 ∨ j = 2 by omega) with rfl | rfl | rfl <;> rfl
theorem dec_6 : strN (dec 6) = ⟨#[54]⟩ := by simp [dec, ddig]; rfl
theorem dec_2 : strN (dec 2) = ⟨#[50]⟩ := by simp [dec, ddig]; rfl
theorem mul_dig : dig 998244359987710471 = [998244359987710471 % 4294967296, 998244359987710471 / 4294967296] := by simp [dig]
theorem add_dig : dig 4294967296 = [0, 1] := by simp [dig]
theorem dec_mul : strN (dec (val [998244359987710471 % 4294967296, 998244359987710471 / 4294967296])) = ⟨#[57, 57, 56, 50, 52, 52, 51, 53, 57, 57, 56, 55, 55, 49, 48, 52, 55, 49]⟩ := by
  rw [show val [998244359987710471 % 4294967296, 998244359987710471 / 4294967296] = 998244359987710471 from rfl]
  simp [dec, ddig]; rfl
theorem dec_add : strN (dec (val [0, 1])) = ⟨#[52, 50, 57, 52, 57, 54, 55, 50, 57, 54]⟩ := by
  rw [show val [0, 1] = 4294967296 from rfl]
  simp [dec, ddig]; rfl
theorem quo_dig : dig 1844674407370955161 = [2576980377, 429496729] := by simp [dig]
theorem big_bits : bl 18446744073709551616 = 65 := by
  rw [bl_shift 64 _ (by omega), show 18446744073709551616 / 2 ^ 64 = 1 from rfl]
  simp [bl]
theorem big_dec : (strN (dec 18446744073709551616)) = big := by simp [dec, ddig]; rfl

/-- a number with its limbs written out -/
theorem RetNat.lit {w : World} {m : Nat} {e : Ending} {w' : World} (h : RetNat w m e w') {l : List Nat} (hd : dig m = l) (n : Nat) (hn : l.length = n) :
    ∃ A c, e = .returned (.slice A n c) ∧ Rd w' w'.heap.size A n c l ∧ Below w.heap.size w w' := by
  obtain ⟨A, c, h1, h2, h3⟩ := h
  subst hn
  rw [hd] at h1 h2
  exact ⟨A, c, h1, h2, h3⟩
theorem dig_small {n : Nat} (h0 : n ≠ 0) (h : n < 4294967296) : dig n = [n] := by
  rw [dig_pos h0, Nat.div_eq_of_lt h, dig_zero, Nat.mod_eq_of_lt h]

set_option maxHeartbeats 4000000 in
theorem awake_any (w : World) : Calls Try.prog 23 #[] w fun e w' => e = .returned (.bool true) ∧ Below w.heap.size w w' := by
  have hp := parse_ok w big big_num (by decide)
  rw [big_val] at hp
  replace hp := hide hp
  go_enter Try.func23, Try.ntmps23
  go_wp2_with fail
  refine hp.out.mono ?_
  rintro e w1 ⟨A, c, rfl, hRa, hb1⟩
  rw [big_dig] at hRa ⊢
  obtain ⟨ad, rfl, hadb, hcs⟩ := hRa.cells (by simp)
  have hc0 := hcs 0 (by simp)
  have hc1 := hcs 1 (by simp)
  have hc2 := hcs 2 (by simp)
  rw [add_zero_] at hc0
  rw [add_one_] at hc1
  rw [show ad.add 2 = ⟨ad.block, ad.off + 2, none⟩ by simp [Addr.add]] at hc2
  simp only [lm, List.getD] at hc0 hc1 hc2
  replace hRa := hide hRa
  have B1 := hide (Below.refl w1.heap.size w1)
  have hs1 : w1.heap.size ≤ w1.heap.size := Nat.le_refl _
  replace hb1 := hide hb1
  clear hcs
  go_wp2_with fail
  refine (print_any w1 w1.heap.size (some ad) 3 c [0, 0, 1] hRa.out (Nat.le_refl _) (by omega)).mono ?_
  rintro e w2 ⟨rfl, hb2⟩
  rw [show val [0, 0, 1] = 18446744073709551616 from rfl, big_dec, big]
  have B2 := hide (B1.out.trans (hb2.mono hs1))
  have hs2 : w1.heap.size ≤ w2.heap.size := B2.out.size
  replace hb2 := hide hb2
  go_wp2_with fail
  refine (bits_any w2 w1.heap.size (some ad) 3 c [0, 0, 1] (hRa.out.below B2.out)).mono ?_
  rintro e w3 ⟨rfl, rfl⟩
  rw [show bl (val [0, 0, 1]) = 65 from big_bits]
  go_wp2_with fail
  refine (of_any w2 10 (by omega)).mono ?_
  rintro e w3 ht
  obtain ⟨tA, tc, rfl, tR, hb3⟩ := ht.lit (dig_small (by omega) (by omega)) 1 rfl
  replace tR := hide tR
  have B3 := hide (B2.out.trans (hb3.mono hs2))
  have hs3 : w1.heap.size ≤ w3.heap.size := B3.out.size
  replace hb3 := hide hb3
  go_wp2_with fail
  refine (divmod_short w3 w3.heap.size (some ad) tA 3 c 1 tc [0, 0, 1] [10] ((hRa.out.below B3.out).more hs3) tR.out (Nat.le_refl _) (by decide) (by rw [show val [10] = 10 from rfl, dig_small (by omega) (by omega)]; rfl)).mono ?_
  rintro e w4 hdm
  rw [RetDM, show val [0, 0, 1] / val [10] = 1844674407370955161 from rfl, show val [0, 0, 1] % val [10] = 6 from rfl, dig_small (n := 6) (by omega) (by omega), quo_dig] at hdm
  obtain ⟨qA, qc, rA, rc, rfl, qR, rR, hb4⟩ := hdm
  replace qR := hide qR
  replace rR := hide rR
  have B4 := hide (B3.out.trans (hb4.mono hs3))
  have hs4 : w1.heap.size ≤ w4.heap.size := B4.out.size
  replace hb4 := hide hb4
  simp only [List.length_cons, List.length_nil, Nat.zero_add, Nat.reduceAdd] at qR rR ⊢
  go_wp2_with fail
  refine (uint_any w4 w4.heap.size qA 2 qc [2576980377, 429496729] qR.out).mono ?_
  rintro e w5 ⟨rfl, rfl⟩
  rw [if_pos (by decide), decide_eq_true (by decide), show val [2576980377, 429496729] = 1844674407370955161 from rfl]
  go_wp2_with fail
  refine (same_true (w4.alloc (Obj.cells #[Value.int IntKind.u32 6] 54)) w4.heap.size (w4.heap.size + 1) rA _ 1 rc 1 1 [6] [6] (rR.out.alloc (Nat.le_refl _) _) (Rd.lit1 w4 6 (by omega)) rfl).mono ?_
  rintro e w' ⟨rfl, q, rfl⟩
  generalize hw5 : ((w4.alloc (Obj.cells #[Value.int IntKind.u32 6] 54))).drewN q = w5
  have hb5 : Below w4.heap.size w4 w5 := by rw [← hw5]; exact below_drewN ((Below.refl _ _).alloc (Nat.le_refl _) _) q
  clear hw5
  have B5 := hide (B4.out.trans (hb5.mono hs4))
  have hs5 : w1.heap.size ≤ w5.heap.size := B5.out.size
  replace hb5 := hide hb5
  go_wp2_with fail
  refine (cmp_any w5 w5.heap.size qA (some ad) 2 qc 3 c [2576980377, 429496729] [0, 0, 1] ((qR.out.below hb5.out).more hb5.out.size) ((hRa.out.below B5.out).more hs5)).mono ?_
  rw [show cmpN (val [2576980377, 429496729]) (val [0, 0, 1]) = -1 from rfl]
  rintro e w' ⟨rfl, q, rfl⟩
  generalize hw6 : w5.drewN q = w6
  have hb6 : Below w5.heap.size w5 w6 := by rw [← hw6]; exact below_drewN (Below.refl _ _) q
  clear hw6
  have B6 := hide (B5.out.trans (hb6.mono hs5))
  have hs6 : w1.heap.size ≤ w6.heap.size := B6.out.size
  replace hb6 := hide hb6
  go_wp2_with fail
  refine (pow_any (w6.alloc (Obj.cells #[Value.int IntKind.u32 2] 54)) (w6.heap.size + 1) _ 1 1 [2] (Rd.lit1 w6 2 (by omega)) (by simp) (by omega) 64 (by omega)).mono ?_
  rintro e w7 hpw
  rw [RetNat2, show val [2] ^ 64 = 18446744073709551616 from rfl, big_dig] at hpw
  obtain ⟨pA, pc, rfl, pR, hb7⟩ := hpw
  replace hb7 : Below w6.heap.size w6 w7 := ((Below.refl _ _).alloc (Nat.le_refl _) _).trans (hb7.mono (by simp))
  replace pR := hide pR
  have B7 := hide (B6.out.trans (hb7.mono hs6))
  have hs7 : w1.heap.size ≤ w7.heap.size := B7.out.size
  replace hb7 := hide hb7
  simp only [List.length_cons, List.length_nil, Nat.zero_add, Nat.reduceAdd] at pR ⊢
  go_wp2_with fail
  refine (cmp_any w7 w7.heap.size pA (some ad) 3 pc 3 c [0, 0, 1] [0, 0, 1] pR.out ((hRa.out.below B7.out).more hs7)).mono ?_
  rw [show cmpN (val [0, 0, 1]) (val [0, 0, 1]) = 0 from rfl]
  rintro e w' ⟨rfl, q, rfl⟩
  generalize hw8 : w7.drewN q = w8
  have hb8 : Below w7.heap.size w7 w8 := by rw [← hw8]; exact below_drewN (Below.refl _ _) q
  clear hw8
  have B8 := hide (B7.out.trans (hb8.mono hs7))
  have hs8 : w1.heap.size ≤ w8.heap.size := B8.out.size
  replace hb8 := hide hb8
  go_wp2_with fail
  refine (of_any w8 12 (by omega)).mono ?_
  rintro e w9 hu
  obtain ⟨uA, uc, rfl, uR, hb9⟩ := hu.lit (dig_small (by omega) (by omega)) 1 rfl
  replace uR := hide uR
  have B9 := hide (B8.out.trans (hb9.mono hs8))
  have hs9 : w1.heap.size ≤ w9.heap.size := B9.out.size
  replace hb9 := hide hb9
  go_wp2_with fail
  refine (of_any w9 18 (by omega)).mono ?_
  rintro e w10 hv
  obtain ⟨vA, vc, rfl, vR, hb10⟩ := hv.lit (dig_small (by omega) (by omega)) 1 rfl
  replace vR := hide vR
  have B10 := hide (B9.out.trans (hb10.mono hs9))
  have hs10 : w1.heap.size ≤ w10.heap.size := B10.out.size
  replace hb10 := hide hb10
  go_wp2_with fail
  refine (gcd_small w10 w10.heap.size uA vA 1 uc 1 vc [12] [18] ((uR.out.below hb10.out).more hb10.out.size) vR.out (Nat.le_refl _) (by decide) (by decide)).mono ?_
  rintro e w11 hgc
  rw [show Nat.gcd (val [12]) (val [18]) = 6 from rfl] at hgc
  obtain ⟨gA, gc, rfl, gR, hb11⟩ := hgc.lit (dig_small (by omega) (by omega)) 1 rfl
  replace gR := hide gR
  have B11 := hide (B10.out.trans (hb11.mono hs10))
  have hs11 : w1.heap.size ≤ w11.heap.size := B11.out.size
  replace hb11 := hide hb11
  go_wp2_with fail
  refine (print_any w11 w11.heap.size gA 1 gc [6] gR.out (Nat.le_refl _) (by omega)).mono ?_
  rintro e w12 ⟨rfl, hb12⟩
  rw [show strN (dec (val [6])) = ⟨#[54]⟩ from dec_6]
  have B12 := hide (B11.out.trans (hb12.mono hs11))
  have hs12 : w1.heap.size ≤ w12.heap.size := B12.out.size
  replace hb12 := hide hb12
  go_wp2_with fail
  refine (of_any w12 3 (by omega)).mono ?_
  rintro e w13 ha3
  obtain ⟨a3A, a3c, rfl, a3R, hb13⟩ := ha3.lit (dig_small (by omega) (by omega)) 1 rfl
  replace a3R := hide a3R
  have B13 := hide (B12.out.trans (hb13.mono hs12))
  have hs13 : w1.heap.size ≤ w13.heap.size := B13.out.size
  replace hb13 := hide hb13
  go_wp2_with fail
  refine (of_any w13 5 (by omega)).mono ?_
  rintro e w14 ha5
  obtain ⟨a5A, a5c, rfl, a5R, hb14⟩ := ha5.lit (dig_small (by omega) (by omega)) 1 rfl
  replace a5R := hide a5R
  have B14 := hide (B13.out.trans (hb14.mono hs13))
  have hs14 : w1.heap.size ≤ w14.heap.size := B14.out.size
  replace hb14 := hide hb14
  go_wp2_with fail
  refine (sub_less w14 w14.heap.size a3A a5A 1 a3c 1 a5c [3] [5] ((a3R.out.below hb14.out).more hb14.out.size) a5R.out (by decide)).mono ?_
  rintro e w15 hsb
  rw [RetNat2, dig_zero] at hsb
  obtain ⟨zA, zc, rfl, zR, hb15⟩ := hsb
  simp only [List.length_nil]
  have B15 := hide (B14.out.trans (hb15.mono hs14))
  have hs15 : w1.heap.size ≤ w15.heap.size := B15.out.size
  replace hb15 := hide hb15
  go_wp2_with fail
  refine (of_any w15 5 (by omega)).mono ?_
  rintro e w16 hb5
  obtain ⟨b5A, b5c, rfl, b5R, hb16⟩ := hb5.lit (dig_small (by omega) (by omega)) 1 rfl
  replace b5R := hide b5R
  have B16 := hide (B15.out.trans (hb16.mono hs15))
  have hs16 : w1.heap.size ≤ w16.heap.size := B16.out.size
  replace hb16 := hide hb16
  go_wp2_with fail
  refine (of_any w16 3 (by omega)).mono ?_
  rintro e w17 hb3
  obtain ⟨b3A, b3c, rfl, b3R, hb17⟩ := hb3.lit (dig_small (by omega) (by omega)) 1 rfl
  replace b3R := hide b3R
  have B17 := hide (B16.out.trans (hb17.mono hs16))
  have hs17 : w1.heap.size ≤ w17.heap.size := B17.out.size
  replace hb17 := hide hb17
  go_wp2_with fail
  refine (sub_more w17 w17.heap.size b5A b3A 1 b5c 1 b3c [5] [3] ((b5R.out.below hb17.out).more hb17.out.size) b3R.out (Nat.le_refl _) (by decide)).mono ?_
  rintro e w18 hsb
  rw [RetNat2, show val [5] - val [3] = 2 from rfl, dig_small (n := 2) (by omega) (by omega)] at hsb
  obtain ⟨dA, dc, rfl, dR, hb18⟩ := hsb
  replace dR := hide dR
  have B18 := hide (B17.out.trans (hb18.mono hs17))
  have hs18 : w1.heap.size ≤ w18.heap.size := B18.out.size
  replace hb18 := hide hb18
  simp only [List.length_cons, List.length_nil, Nat.zero_add] at dR ⊢
  go_wp2_with fail
  refine (print_any w18 w18.heap.size dA 1 dc [2] dR.out (Nat.le_refl _) (by omega)).mono ?_
  rintro e w19 ⟨rfl, hb19⟩
  rw [show strN (dec (val [2])) = ⟨#[50]⟩ from dec_2]
  have B19 := hide (B18.out.trans (hb19.mono hs18))
  have hs19 : w1.heap.size ≤ w19.heap.size := B19.out.size
  replace hb19 := hide hb19
  go_wp2_with fail
  refine (of_any w19 1000000007 (by omega)).mono ?_
  rintro e w20 hm
  obtain ⟨mA, mc, rfl, mR, hb20⟩ := hm.lit (dig_small (by omega) (by omega)) 1 rfl
  replace mR := hide mR
  have B20 := hide (B19.out.trans (hb20.mono hs19))
  have hs20 : w1.heap.size ≤ w20.heap.size := B20.out.size
  replace hb20 := hide hb20
  go_wp2_with fail
  refine (of_any w20 998244353 (by omega)).mono ?_
  rintro e w21 hn
  obtain ⟨nA, nc, rfl, nR, hb21⟩ := hn.lit (dig_small (by omega) (by omega)) 1 rfl
  replace nR := hide nR
  have B21 := hide (B20.out.trans (hb21.mono hs20))
  have hs21 : w1.heap.size ≤ w21.heap.size := B21.out.size
  replace hb21 := hide hb21
  go_wp2_with fail
  refine (mul_any w21 w21.heap.size mA nA 1 mc 1 nc [1000000007] [998244353] ((mR.out.below hb21.out).more hb21.out.size) nR.out (Nat.le_refl _) (by omega)).mono ?_
  rintro e w22 hml
  rw [show val [1000000007] * val [998244353] = 998244359987710471 from rfl] at hml
  obtain ⟨kA, kc, rfl, kR, hb22⟩ := hml.lit mul_dig 2 rfl
  replace kR := hide kR
  have B22 := hide (B21.out.trans (hb22.mono hs21))
  have hs22 : w1.heap.size ≤ w22.heap.size := B22.out.size
  replace hb22 := hide hb22
  go_wp2_with fail
  refine (print_any w22 w22.heap.size kA 2 kc _ kR.out (Nat.le_refl _) (by omega)).mono ?_
  rintro e w23 ⟨rfl, hb23⟩
  rw [dec_mul]
  have B23 := hide (B22.out.trans (hb23.mono hs22))
  have hs23 : w1.heap.size ≤ w23.heap.size := B23.out.size
  replace hb23 := hide hb23
  go_wp2_with fail
  refine (of_any w23 4294967295 (by omega)).mono ?_
  rintro e w24 ho
  obtain ⟨oA, oc, rfl, oR, hb24⟩ := ho.lit (dig_small (by omega) (by omega)) 1 rfl
  replace oR := hide oR
  have B24 := hide (B23.out.trans (hb24.mono hs23))
  have hs24 : w1.heap.size ≤ w24.heap.size := B24.out.size
  replace hb24 := hide hb24
  go_wp2_with fail
  refine (of_any w24 1 (by omega)).mono ?_
  rintro e w25 hp1
  obtain ⟨p1A, p1c, rfl, p1R, hb25⟩ := hp1.lit (dig_small (by omega) (by omega)) 1 rfl
  replace p1R := hide p1R
  have B25 := hide (B24.out.trans (hb25.mono hs24))
  have hs25 : w1.heap.size ≤ w25.heap.size := B25.out.size
  replace hb25 := hide hb25
  go_wp2_with fail
  refine (add_any w25 w25.heap.size oA p1A 1 oc 1 p1c [4294967295] [1] ((oR.out.below hb25.out).more hb25.out.size) p1R.out (Nat.le_refl _) (by omega) (by omega)).mono ?_
  rintro e w26 had
  rw [show val [4294967295] + val [1] = 4294967296 from rfl] at had
  obtain ⟨sA, sc, rfl, sR, hb26⟩ := had.lit add_dig 2 rfl
  replace sR := hide sR
  have B26 := hide (B25.out.trans (hb26.mono hs25))
  have hs26 : w1.heap.size ≤ w26.heap.size := B26.out.size
  replace hb26 := hide hb26
  go_wp2_with fail
  refine (print_any w26 w26.heap.size sA 2 sc _ sR.out (Nat.le_refl _) (by omega)).mono ?_
  rintro e w27 ⟨rfl, hb27⟩
  rw [dec_add]
  have B27 := hide (B26.out.trans (hb27.mono hs26))
  have hs27 : w1.heap.size ≤ w27.heap.size := B27.out.size
  replace hb27 := hide hb27
  go_wp2_with fail
  have R7 := Rd.lit3 w27
  refine (norm_any _ (w27.heap.size + 1) _ 3 3 [7, 0, 0] R7 (by simp)).mono ?_
  rintro e w28 ⟨rfl, hO28, hb28, hl28⟩
  rw [show val [7, 0, 0] = 7 from rfl, dig_small (n := 7) (by omega) (by omega)]
  replace hb28 : Below w27.heap.size w27 w28 := ((Below.refl _ _).alloc (Nat.le_refl _) _).trans (hb28.mono (by simp))
  have B28 := hide (B27.out.trans (hb28.mono hs27))
  simp only [List.length_cons, List.length_nil, Nat.zero_add]
  clear hO28 hl28 hb28 R7
  go_wp2
  go_ret
  exact ⟨rfl, hb1.out.trans (B28.out.mono hb1.out.size)⟩

end Go.Proofs.Ytfkkpcdicclahaa
