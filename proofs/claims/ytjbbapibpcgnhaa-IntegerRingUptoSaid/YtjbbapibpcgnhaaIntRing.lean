/-
  The walk of examboardlaw02.IntegerRing.
-/
import Derived.Test.YtjbbapibpcgnhaaIntLaw
namespace Go.Proofs.Ytjbbapibpcgnhaa
open Go.RowKit

set_option maxRecDepth 100000 in
set_option maxHeartbeats 4000000 in
theorem ring_walk (w : World) (sa : Bool) (Aa : Option Addr) (na ca : Nat) (xa : List Nat) (sb : Bool) (Ab : Option Addr) (nb cb : Nat) (xb : List Nat) (sc : Bool) (Ac : Option Addr) (nc cc : Nat) (xc : List Nat) (h_a : Rd w w.heap.size Aa na ca xa) (k_a : na ≤ 1048576) (h_b : Rd w w.heap.size Ab nb cb xb) (k_b : nb ≤ 1048576) (h_c : Rd w w.heap.size Ac nc cc xc) (k_c : nc ≤ 1048576) :
    Calls Try.prog 6 #[.agg #[.bool sa, .slice Aa na ca], .agg #[.bool sb, .slice Ab nb cb], .agg #[.bool sc, .slice Ac nc cc]] w fun e w' => e = .returned (.bool true) ∧ Below w.heap.size w w' := by
  obtain ⟨K, hK⟩ : ∃ K, K = 1048576 := ⟨_, rfl⟩
  obtain ⟨a, za⟩ : ∃ z : Int, iv sa (val xa) = z := ⟨_, rfl⟩
  have Pa : zmag a < pw K := zlt_of za (by have h1 := val_lt h_a.limbs; have h2 := pw_mono (show xa.length ≤ K by have := h_a.len; omega); omega)
  have L_a : na ≤ K := by omega
  obtain ⟨b, zb⟩ : ∃ z : Int, iv sb (val xb) = z := ⟨_, rfl⟩
  have Pb : zmag b < pw K := zlt_of zb (by have h1 := val_lt h_b.limbs; have h2 := pw_mono (show xb.length ≤ K by have := h_b.len; omega); omega)
  have L_b : nb ≤ K := by omega
  obtain ⟨c, zc⟩ : ∃ z : Int, iv sc (val xc) = z := ⟨_, rfl⟩
  have Pc : zmag c < pw K := zlt_of zc (by have h1 := val_lt h_c.limbs; have h2 := pw_mono (show xc.length ≤ K by have := h_c.len; omega); omega)
  have L_c : nc ≤ K := by omega
  obtain ⟨s, ds⟩ : ∃ z : Int, z = a + b := ⟨_, rfl⟩
  have Ps : zmag s < pw (max K K + 1) := by rw [ds]; exact zlt_add Pa Pb
  have L_s : (dig (zmag s)).length ≤ max K K + 1 := zlen Ps
  obtain ⟨m, dm⟩ : ∃ z : Int, z = a * b := ⟨_, rfl⟩
  have Pm : zmag m < pw (K + K) := by rw [dm]; exact zlt_mul Pa Pb
  have L_m : (dig (zmag m)).length ≤ K + K := zlen Pm
  obtain ⟨abc, dabc⟩ : ∃ z : Int, z = a + b + c := ⟨_, rfl⟩
  have Pabc : zmag abc < pw (max (max K K + 1) (K + 1) + 1) := by rw [dabc]; exact zlt_add (zlt_add Pa Pb) (zlt_up Pc)
  have L_abc : (dig (zmag abc)).length ≤ max (max K K + 1) (K + 1) + 1 := zlen Pabc
  obtain ⟨bc, dbc⟩ : ∃ z : Int, z = b + c := ⟨_, rfl⟩
  have Pbc : zmag bc < pw (max K K + 1) := by rw [dbc]; exact zlt_add Pb Pc
  have L_bc : (dig (zmag bc)).length ≤ max K K + 1 := zlen Pbc
  obtain ⟨mmc, dmmc⟩ : ∃ z : Int, z = a * b * c := ⟨_, rfl⟩
  have Pmmc : zmag mmc < pw (K + K + K) := by rw [dmmc]; exact zlt_mul (zlt_mul Pa Pb) Pc
  have L_mmc : (dig (zmag mmc)).length ≤ K + K + K := zlen Pmmc
  obtain ⟨mbc, dmbc⟩ : ∃ z : Int, z = b * c := ⟨_, rfl⟩
  have Pmbc : zmag mbc < pw (K + K) := by rw [dmbc]; exact zlt_mul Pb Pc
  have L_mbc : (dig (zmag mbc)).length ≤ K + K := zlen Pmbc
  obtain ⟨mac, dmac⟩ : ∃ z : Int, z = a * c := ⟨_, rfl⟩
  have Pmac : zmag mac < pw (K + K) := by rw [dmac]; exact zlt_mul Pa Pc
  have L_mac : (dig (zmag mac)).length ≤ K + K := zlen Pmac
  obtain ⟨dis, ddis⟩ : ∃ z : Int, z = (a + b) * c := ⟨_, rfl⟩
  have Pdis : zmag dis < pw (max K K + 1 + K) := by rw [ddis]; exact zlt_mul (zlt_add Pa Pb) Pc
  have L_dis : (dig (zmag dis)).length ≤ max K K + 1 + K := zlen Pdis
  obtain ⟨ma, dma⟩ : ∃ z : Int, z = -a := ⟨_, rfl⟩
  have Pma : zmag ma < pw (K) := by rw [dma]; exact zlt_neg Pa
  have L_ma : (dig (zmag ma)).length ≤ K := zlen Pma
  obtain ⟨mb, dmb⟩ : ∃ z : Int, z = -b := ⟨_, rfl⟩
  have Pmb : zmag mb < pw (K) := by rw [dmb]; exact zlt_neg Pb
  have L_mb : (dig (zmag mb)).length ≤ K := zlen Pmb
  obtain ⟨d, dd⟩ : ∃ z : Int, z = a - b := ⟨_, rfl⟩
  have Pd : zmag d < pw (max K K + 1) := by rw [dd]; exact zlt_sub Pa Pb
  have L_d : (dig (zmag d)).length ≤ max K K + 1 := zlen Pd
  have P1 : zmag 1 < pw (0 + 1) := by decide
  have L_one : (dig (zmag 1)).length ≤ 0 + 1 := zlen P1
  have L_zero : (dig (zmag 0)).length ≤ 0 := zlen (by decide)
  have L_an : (dig (zmag a)).length ≤ K := zlen Pa
  have e1 : iv sa (val xa) + iv sb (val xb) = s := by
    first
      | (simp only [za, zb]; done)
      | (simp only [za, zb]; first | rfl | (rw [ds]))
      | (rw [ds])
  have e2 : iv sb (val xb) + iv sa (val xa) = s := by
    first
      | (simp only [za, zb]; done)
      | (simp only [za, zb]; first | rfl | (rw [ds, Int.add_comm]))
      | (rw [ds, Int.add_comm])
  have e3 : iv sa (val xa) * iv sb (val xb) = m := by
    first
      | (simp only [za, zb]; done)
      | (simp only [za, zb]; first | rfl | (rw [dm]))
      | (rw [dm])
  have e4 : iv sb (val xb) * iv sa (val xa) = m := by
    first
      | (simp only [za, zb]; done)
      | (simp only [za, zb]; first | rfl | (rw [dm, Int.mul_comm]))
      | (rw [dm, Int.mul_comm])
  have e5 : iv (zneg s) (val (dig (zmag s))) + iv sc (val xc) = abc := by
    first
      | (simp only [val_ieta, zc]; done)
      | (simp only [val_ieta, zc]; first | rfl | (rw [dabc, ds]))
      | (rw [dabc, ds])
  have e6 : iv sb (val xb) + iv sc (val xc) = bc := by
    first
      | (simp only [zb, zc]; done)
      | (simp only [zb, zc]; first | rfl | (rw [dbc]))
      | (rw [dbc])
  have e7 : iv sa (val xa) + iv (zneg bc) (val (dig (zmag bc))) = abc := by
    first
      | (simp only [val_ieta, za]; done)
      | (simp only [val_ieta, za]; first | rfl | (rw [dabc, dbc, Int.add_assoc]))
      | (rw [dabc, dbc, Int.add_assoc])
  have e8 : iv (zneg m) (val (dig (zmag m))) * iv sc (val xc) = mmc := by
    first
      | (simp only [val_ieta, zc]; done)
      | (simp only [val_ieta, zc]; first | rfl | (rw [dmmc, dm]))
      | (rw [dmmc, dm])
  have e9 : iv sb (val xb) * iv sc (val xc) = mbc := by
    first
      | (simp only [zb, zc]; done)
      | (simp only [zb, zc]; first | rfl | (rw [dmbc]))
      | (rw [dmbc])
  have e10 : iv sa (val xa) * iv (zneg mbc) (val (dig (zmag mbc))) = mmc := by
    first
      | (simp only [val_ieta, za]; done)
      | (simp only [val_ieta, za]; first | rfl | (rw [dmmc, dmbc, Int.mul_assoc]))
      | (rw [dmmc, dmbc, Int.mul_assoc])
  have e11 : iv (zneg s) (val (dig (zmag s))) * iv sc (val xc) = dis := by
    first
      | (simp only [val_ieta, zc]; done)
      | (simp only [val_ieta, zc]; first | rfl | (rw [ddis, ds]))
      | (rw [ddis, ds])
  have e12 : iv sa (val xa) * iv sc (val xc) = mac := by
    first
      | (simp only [za, zc]; done)
      | (simp only [za, zc]; first | rfl | (rw [dmac]))
      | (rw [dmac])
  have e13 : iv (zneg mac) (val (dig (zmag mac))) + iv (zneg mbc) (val (dig (zmag mbc))) = dis := by
    first
      | (simp only [val_ieta]; done)
      | (simp only [val_ieta]; first | rfl | (rw [ddis, dmac, dmbc, Int.add_mul]))
      | (rw [ddis, dmac, dmbc, Int.add_mul])
  have e14 : iv sa (val xa) + iv (zneg 0) (val (dig (zmag 0))) = a := by
    first
      | (simp only [val_ieta, za]; done)
      | (simp only [val_ieta, za]; first | rfl | (omega))
      | (omega)
  have e15 : iv sa (val xa) = a := by
    first
      | (simp only [za]; done)
      | (simp only [za]; first | rfl | (rfl))
      | (rfl)
  have e16 : iv sa (val xa) * iv (zneg 1) (val (dig (zmag 1))) = a := by
    first
      | (simp only [val_ieta, za]; done)
      | (simp only [val_ieta, za]; first | rfl | (rw [Int.mul_one]))
      | (rw [Int.mul_one])
  have e17 : iv sa (val xa) * iv (zneg 0) (val (dig (zmag 0))) = 0 := by
    first
      | (simp only [val_ieta, za]; done)
      | (simp only [val_ieta, za]; first | rfl | (rw [Int.mul_zero]))
      | (rw [Int.mul_zero])
  have e18 : -iv sa (val xa) = ma := by
    first
      | (simp only [za]; done)
      | (simp only [za]; first | rfl | (rw [dma]))
      | (rw [dma])
  have e19 : iv sa (val xa) + iv (zneg ma) (val (dig (zmag ma))) = 0 := by
    first
      | (simp only [val_ieta, za]; done)
      | (simp only [val_ieta, za]; first | rfl | (rw [dma]; omega))
      | (rw [dma]; omega)
  have e20 : iv sa (val xa) - iv sb (val xb) = d := by
    first
      | (simp only [za, zb]; done)
      | (simp only [za, zb]; first | rfl | (rw [dd]))
      | (rw [dd])
  have e21 : -iv sb (val xb) = mb := by
    first
      | (simp only [zb]; done)
      | (simp only [zb]; first | rfl | (rw [dmb]))
      | (rw [dmb])
  have e22 : iv sa (val xa) + iv (zneg mb) (val (dig (zmag mb))) = d := by
    first
      | (simp only [val_ieta, za]; done)
      | (simp only [val_ieta, za]; first | rfl | (rw [dmb, dd]; omega))
      | (rw [dmb, dd]; omega)
  have e23 : -iv (zneg ma) (val (dig (zmag ma))) = a := by
    first
      | (simp only [val_ieta]; done)
      | (simp only [val_ieta]; first | rfl | (rw [dma]; omega))
      | (rw [dma]; omega)
  obtain ⟨p, hp⟩ : ∃ z : Int, sgn a = z := ⟨_, rfl⟩
  obtain ⟨q, hq⟩ : ∃ z : Int, sgn b = z := ⟨_, rfl⟩
  have hpq : sgn m = p * q := by rw [dm, ← hp, ← hq]; exact Int.sign_mul a b
  have bp := sgn_bound a
  have bq := sgn_bound b
  rw [hp] at bp
  rw [hq] at bq
  have wv : IntKind.i64.wrap (p * q) = p * q := wrap_one (mul_one_bound bp.1 bp.2 bq.1 bq.2).1 (mul_one_bound bp.1 bp.2 bq.1 bq.2).2
  clear bp bq
  have f1 : sgn (iv sa (val xa)) = p := by
    first
      | (simp only [za]; done)
      | (simp only [za]; first | rfl | (exact hp))
      | (exact hp)
  have f2 : sgn (iv sb (val xb)) = q := by
    first
      | (simp only [zb]; done)
      | (simp only [zb]; first | rfl | (exact hq))
      | (exact hq)
  have f3 : sgn (iv (zneg m) (val (dig (zmag m)))) = p * q := by
    first
      | (simp only [val_ieta]; done)
      | (simp only [val_ieta]; first | rfl | (exact hpq))
      | (exact hpq)
  clear hp hq hpq
  replace za := hide za
  replace Pa := hide Pa
  replace L_a := hide L_a
  replace zb := hide zb
  replace Pb := hide Pb
  replace L_b := hide L_b
  replace zc := hide zc
  replace Pc := hide Pc
  replace L_c := hide L_c
  replace L_s := hide L_s
  replace Ps := hide Ps
  replace ds := hide ds
  replace L_m := hide L_m
  replace Pm := hide Pm
  replace dm := hide dm
  replace L_abc := hide L_abc
  replace Pabc := hide Pabc
  replace dabc := hide dabc
  replace L_bc := hide L_bc
  replace Pbc := hide Pbc
  replace dbc := hide dbc
  replace L_mmc := hide L_mmc
  replace Pmmc := hide Pmmc
  replace dmmc := hide dmmc
  replace L_mbc := hide L_mbc
  replace Pmbc := hide Pmbc
  replace dmbc := hide dmbc
  replace L_mac := hide L_mac
  replace Pmac := hide Pmac
  replace dmac := hide dmac
  replace L_dis := hide L_dis
  replace Pdis := hide Pdis
  replace ddis := hide ddis
  replace L_ma := hide L_ma
  replace Pma := hide Pma
  replace dma := hide dma
  replace L_mb := hide L_mb
  replace Pmb := hide Pmb
  replace dmb := hide dmb
  replace L_d := hide L_d
  replace Pd := hide Pd
  replace dd := hide dd
  replace L_one := hide L_one
  replace L_zero := hide L_zero
  replace L_an := hide L_an
  replace e1 := hide e1
  replace e2 := hide e2
  replace e3 := hide e3
  replace e4 := hide e4
  replace e5 := hide e5
  replace e6 := hide e6
  replace e7 := hide e7
  replace e8 := hide e8
  replace e9 := hide e9
  replace e10 := hide e10
  replace e11 := hide e11
  replace e12 := hide e12
  replace e13 := hide e13
  replace e14 := hide e14
  replace e15 := hide e15
  replace e16 := hide e16
  replace e17 := hide e17
  replace e18 := hide e18
  replace e19 := hide e19
  replace e20 := hide e20
  replace e21 := hide e21
  replace e22 := hide e22
  replace e23 := hide e23
  replace wv := hide wv
  replace f1 := hide f1
  replace f2 := hide f2
  replace f3 := hide f3
  have hKle : K ≤ 1048576 := by omega
  clear hK
  clear k_a k_b k_c P1
  obtain ⟨W, hW⟩ : ∃ W, W = (((w.alloc (.cells #[.bool sa, .slice Aa na ca] 25)).alloc (.cells #[.bool sb, .slice Ab nb cb] 25)).alloc (.cells #[.bool sc, .slice Ac nc cc] 25)) := ⟨_, rfl⟩
  have b_a : Box W (w.heap.size) (.bool sa) (.slice Aa na ca) := by rw [hW]; exact (((Box.new w _ _ rfl).al _).al _)
  have b_b : Box W (w.heap.size + 1) (.bool sb) (.slice Ab nb cb) := by rw [hW]; exact ((Box.new _ _ _ (by simp)).al _)
  have b_c : Box W (w.heap.size + 1 + 1) (.bool sc) (.slice Ac nc cc) := by rw [hW]; exact (Box.new _ _ _ (by simp))
  have hwW : Below w.heap.size w W := by rw [hW]; exact ((((Below.refl _ _).alloc (Nat.le_refl _) _).alloc (by simp) _).alloc (by simp; omega) _)
  have R_a := hide (Rd.then_ h_a hwW)
  clear h_a
  have R_b := hide (Rd.then_ h_b hwW)
  clear h_b
  have R_c := hide (Rd.then_ h_c hwW)
  clear h_c
  have B := hide hwW
  clear hwW
  have U0 : Below W.heap.size W W := Below.refl _ _
  have c_a0 := b_a.at0 b_a.lt_size (Nat.le_refl _)
  have c_a1 := b_a.at1 b_a.lt_size (Nat.le_refl _)
  replace b_a := hide b_a
  have c_b0 := b_b.at0 b_b.lt_size (Nat.le_refl _)
  have c_b1 := b_b.at1 b_b.lt_size (Nat.le_refl _)
  replace b_b := hide b_b
  have c_c0 := b_c.at0 b_c.lt_size (Nat.le_refl _)
  have c_c1 := b_c.at1 b_c.lt_size (Nat.le_refl _)
  replace b_c := hide b_c
  go_enter Try.func6, Try.ntmps6
  go_wp2_with fail
  rw [← hW]
  clear hW
  refine (iof_any _ 0 (by omega) (by omega)).mono ?_
  rintro e w1 ⟨A_zero, c_zero, rfl, R_zero, hb⟩
  replace R_a := hide (Rd.then_ R_a.out hb)
  replace R_b := hide (Rd.then_ R_b.out hb)
  replace R_c := hide (Rd.then_ R_c.out hb)
  have U1 : Below W.heap.size W w1 := Below.then_ U0 hb
  replace B := hide (Below.then_ B.out hb)
  replace R_zero := hide R_zero
  clear hb
  have hbx : Below w1.heap.size w1 (w1.alloc (.cells #[.bool (zneg 0), .slice A_zero (dig (zmag 0)).length c_zero] 25)) := ((Below.refl _ _).alloc (Nat.le_refl _) _)
  have Ux := Below.then_ U1 hbx
  go_wp2_with fail
  obtain ⟨V1, hV⟩ : ∃ V, V = (w1.alloc (.cells #[.bool (zneg 0), .slice A_zero (dig (zmag 0)).length c_zero] 25)) := ⟨_, rfl⟩
  obtain ⟨g_zero, hg_zero⟩ : ∃ g, g = w1.heap.size := ⟨_, rfl⟩
  rw [← hV]
  rw [← hV] at hbx Ux
  rw [← hg_zero]
  have b_zero : Box V1 g_zero (.bool (zneg 0)) (.slice A_zero (dig (zmag 0)).length c_zero) := by rw [hV]; exact (Box.new _ _ _ hg_zero)
  clear hV
  clear hg_zero
  replace R_a := hide (Rd.then_ R_a.out hbx)
  replace R_b := hide (Rd.then_ R_b.out hbx)
  replace R_c := hide (Rd.then_ R_c.out hbx)
  replace R_zero := hide (Rd.then_ R_zero.out hbx)
  have U2 : Below W.heap.size W V1 := Below.then_ U1 hbx
  replace B := hide (Below.then_ B.out hbx)
  clear hbx
  replace b_a := hide (Box.keep b_a.out U2)
  clear c_a0 c_a1
  replace b_b := hide (Box.keep b_b.out U2)
  clear c_b0 c_b1
  replace b_c := hide (Box.keep b_c.out U2)
  clear c_c0 c_c1
  replace b_zero := hide b_zero
  have U3 : Below V1.heap.size V1 V1 := Below.refl _ _
  have c_a0 := b_a.out.at0 b_a.out.lt_size (Nat.le_refl _)
  have c_a1 := b_a.out.at1 b_a.out.lt_size (Nat.le_refl _)
  have c_b0 := b_b.out.at0 b_b.out.lt_size (Nat.le_refl _)
  have c_b1 := b_b.out.at1 b_b.out.lt_size (Nat.le_refl _)
  have c_c0 := b_c.out.at0 b_c.out.lt_size (Nat.le_refl _)
  have c_c1 := b_c.out.at1 b_c.out.lt_size (Nat.le_refl _)
  have c_zero0 := b_zero.out.at0 b_zero.out.lt_size (Nat.le_refl _)
  have c_zero1 := b_zero.out.at1 b_zero.out.lt_size (Nat.le_refl _)
  refine (iof_any _ 1 (by omega) (by omega)).mono ?_
  rintro e w2 ⟨A_one, c_one, rfl, R_one, hb⟩
  replace R_a := hide (Rd.then_ R_a.out hb)
  replace R_b := hide (Rd.then_ R_b.out hb)
  replace R_c := hide (Rd.then_ R_c.out hb)
  replace R_zero := hide (Rd.then_ R_zero.out hb)
  have U4 : Below V1.heap.size V1 w2 := Below.then_ U3 hb
  replace B := hide (Below.then_ B.out hb)
  replace R_one := hide R_one
  clear hb
  have hbx : Below w2.heap.size w2 (w2.alloc (.cells #[.bool (zneg 1), .slice A_one (dig (zmag 1)).length c_one] 25)) := ((Below.refl _ _).alloc (Nat.le_refl _) _)
  have Ux := Below.then_ U4 hbx
  go_wp2_with fail
  obtain ⟨V4, hV⟩ : ∃ V, V = (w2.alloc (.cells #[.bool (zneg 1), .slice A_one (dig (zmag 1)).length c_one] 25)) := ⟨_, rfl⟩
  obtain ⟨g_one, hg_one⟩ : ∃ g, g = w2.heap.size := ⟨_, rfl⟩
  rw [← hV]
  rw [← hV] at hbx Ux
  rw [← hg_one]
  have b_one : Box V4 g_one (.bool (zneg 1)) (.slice A_one (dig (zmag 1)).length c_one) := by rw [hV]; exact (Box.new _ _ _ hg_one)
  clear hV
  clear hg_one
  replace R_a := hide (Rd.then_ R_a.out hbx)
  replace R_b := hide (Rd.then_ R_b.out hbx)
  replace R_c := hide (Rd.then_ R_c.out hbx)
  replace R_zero := hide (Rd.then_ R_zero.out hbx)
  replace R_one := hide (Rd.then_ R_one.out hbx)
  have U5 : Below V1.heap.size V1 V4 := Below.then_ U4 hbx
  replace B := hide (Below.then_ B.out hbx)
  clear hbx
  replace b_a := hide (Box.keep b_a.out U5)
  clear c_a0 c_a1
  replace b_b := hide (Box.keep b_b.out U5)
  clear c_b0 c_b1
  replace b_c := hide (Box.keep b_c.out U5)
  clear c_c0 c_c1
  replace b_zero := hide (Box.keep b_zero.out U5)
  clear c_zero0 c_zero1
  replace b_one := hide b_one
  have U6 : Below V4.heap.size V4 V4 := Below.refl _ _
  have c_a0 := b_a.out.at0 b_a.out.lt_size (Nat.le_refl _)
  have c_a1 := b_a.out.at1 b_a.out.lt_size (Nat.le_refl _)
  have c_b0 := b_b.out.at0 b_b.out.lt_size (Nat.le_refl _)
  have c_b1 := b_b.out.at1 b_b.out.lt_size (Nat.le_refl _)
  have c_c0 := b_c.out.at0 b_c.out.lt_size (Nat.le_refl _)
  have c_c1 := b_c.out.at1 b_c.out.lt_size (Nat.le_refl _)
  have c_zero0 := b_zero.out.at0 b_zero.out.lt_size (Nat.le_refl _)
  have c_zero1 := b_zero.out.at1 b_zero.out.lt_size (Nat.le_refl _)
  have c_one0 := b_one.out.at0 b_one.out.lt_size (Nat.le_refl _)
  have c_one1 := b_one.out.at1 b_one.out.lt_size (Nat.le_refl _)
  refine (iadd_any _ _ _ _ _ _ _ _ _ _ _ _ R_a.out R_b.out (Nat.le_refl _) (by have := L_a.out; omega) (by have := L_b.out; omega)).mono ?_
  rw [e1.out]
  rintro e w3 ⟨A_ab, c_ab, rfl, R_ab, hb⟩
  replace R_a := hide (Rd.then_ R_a.out hb)
  replace R_b := hide (Rd.then_ R_b.out hb)
  replace R_c := hide (Rd.then_ R_c.out hb)
  replace R_zero := hide (Rd.then_ R_zero.out hb)
  replace R_one := hide (Rd.then_ R_one.out hb)
  have U7 : Below V4.heap.size V4 w3 := Below.then_ U6 hb
  replace B := hide (Below.then_ B.out hb)
  replace R_ab := hide R_ab
  clear hb
  have hbx : Below w3.heap.size w3 (w3.alloc (.cells #[.bool (zneg s), .slice A_ab (dig (zmag s)).length c_ab] 25)) := ((Below.refl _ _).alloc (Nat.le_refl _) _)
  have Ux := Below.then_ U7 hbx
  go_wp2_with fail
  obtain ⟨V7, hV⟩ : ∃ V, V = (w3.alloc (.cells #[.bool (zneg s), .slice A_ab (dig (zmag s)).length c_ab] 25)) := ⟨_, rfl⟩
  obtain ⟨g_ab, hg_ab⟩ : ∃ g, g = w3.heap.size := ⟨_, rfl⟩
  rw [← hV]
  rw [← hV] at hbx Ux
  rw [← hg_ab]
  have b_ab : Box V7 g_ab (.bool (zneg s)) (.slice A_ab (dig (zmag s)).length c_ab) := by rw [hV]; exact (Box.new _ _ _ hg_ab)
  clear hV
  clear hg_ab
  replace R_a := hide (Rd.then_ R_a.out hbx)
  replace R_b := hide (Rd.then_ R_b.out hbx)
  replace R_c := hide (Rd.then_ R_c.out hbx)
  replace R_zero := hide (Rd.then_ R_zero.out hbx)
  replace R_one := hide (Rd.then_ R_one.out hbx)
  replace R_ab := hide (Rd.then_ R_ab.out hbx)
  have U8 : Below V4.heap.size V4 V7 := Below.then_ U7 hbx
  replace B := hide (Below.then_ B.out hbx)
  clear hbx
  replace b_a := hide (Box.keep b_a.out U8)
  clear c_a0 c_a1
  replace b_b := hide (Box.keep b_b.out U8)
  clear c_b0 c_b1
  replace b_c := hide (Box.keep b_c.out U8)
  clear c_c0 c_c1
  replace b_zero := hide (Box.keep b_zero.out U8)
  clear c_zero0 c_zero1
  replace b_one := hide (Box.keep b_one.out U8)
  clear c_one0 c_one1
  replace b_ab := hide b_ab
  have U9 : Below V7.heap.size V7 V7 := Below.refl _ _
  have c_a0 := b_a.out.at0 b_a.out.lt_size (Nat.le_refl _)
  have c_a1 := b_a.out.at1 b_a.out.lt_size (Nat.le_refl _)
  have c_b0 := b_b.out.at0 b_b.out.lt_size (Nat.le_refl _)
  have c_b1 := b_b.out.at1 b_b.out.lt_size (Nat.le_refl _)
  have c_c0 := b_c.out.at0 b_c.out.lt_size (Nat.le_refl _)
  have c_c1 := b_c.out.at1 b_c.out.lt_size (Nat.le_refl _)
  have c_zero0 := b_zero.out.at0 b_zero.out.lt_size (Nat.le_refl _)
  have c_zero1 := b_zero.out.at1 b_zero.out.lt_size (Nat.le_refl _)
  have c_one0 := b_one.out.at0 b_one.out.lt_size (Nat.le_refl _)
  have c_one1 := b_one.out.at1 b_one.out.lt_size (Nat.le_refl _)
  have c_ab0 := b_ab.out.at0 b_ab.out.lt_size (Nat.le_refl _)
  have c_ab1 := b_ab.out.at1 b_ab.out.lt_size (Nat.le_refl _)
  refine (imul_any _ _ _ _ _ _ _ _ _ _ _ _ R_a.out R_b.out (Nat.le_refl _) (by have := L_a.out; have := L_b.out; omega)).mono ?_
  rw [e3.out]
  rintro e w4 ⟨A_mm, c_mm, rfl, R_mm, hb⟩
  replace R_a := hide (Rd.then_ R_a.out hb)
  replace R_b := hide (Rd.then_ R_b.out hb)
  replace R_c := hide (Rd.then_ R_c.out hb)
  replace R_zero := hide (Rd.then_ R_zero.out hb)
  replace R_one := hide (Rd.then_ R_one.out hb)
  replace R_ab := hide (Rd.then_ R_ab.out hb)
  have U10 : Below V7.heap.size V7 w4 := Below.then_ U9 hb
  replace B := hide (Below.then_ B.out hb)
  replace R_mm := hide R_mm
  clear hb
  have hbx : Below w4.heap.size w4 (w4.alloc (.cells #[.bool (zneg m), .slice A_mm (dig (zmag m)).length c_mm] 25)) := ((Below.refl _ _).alloc (Nat.le_refl _) _)
  have Ux := Below.then_ U10 hbx
  go_wp2_with fail
  obtain ⟨V10, hV⟩ : ∃ V, V = (w4.alloc (.cells #[.bool (zneg m), .slice A_mm (dig (zmag m)).length c_mm] 25)) := ⟨_, rfl⟩
  obtain ⟨g_mm, hg_mm⟩ : ∃ g, g = w4.heap.size := ⟨_, rfl⟩
  rw [← hV]
  rw [← hV] at hbx Ux
  rw [← hg_mm]
  have b_mm : Box V10 g_mm (.bool (zneg m)) (.slice A_mm (dig (zmag m)).length c_mm) := by rw [hV]; exact (Box.new _ _ _ hg_mm)
  clear hV
  clear hg_mm
  replace R_a := hide (Rd.then_ R_a.out hbx)
  replace R_b := hide (Rd.then_ R_b.out hbx)
  replace R_c := hide (Rd.then_ R_c.out hbx)
  replace R_zero := hide (Rd.then_ R_zero.out hbx)
  replace R_one := hide (Rd.then_ R_one.out hbx)
  replace R_ab := hide (Rd.then_ R_ab.out hbx)
  replace R_mm := hide (Rd.then_ R_mm.out hbx)
  have U11 : Below V7.heap.size V7 V10 := Below.then_ U10 hbx
  replace B := hide (Below.then_ B.out hbx)
  clear hbx
  replace b_a := hide (Box.keep b_a.out U11)
  clear c_a0 c_a1
  replace b_b := hide (Box.keep b_b.out U11)
  clear c_b0 c_b1
  replace b_c := hide (Box.keep b_c.out U11)
  clear c_c0 c_c1
  replace b_zero := hide (Box.keep b_zero.out U11)
  clear c_zero0 c_zero1
  replace b_one := hide (Box.keep b_one.out U11)
  clear c_one0 c_one1
  replace b_ab := hide (Box.keep b_ab.out U11)
  clear c_ab0 c_ab1
  replace b_mm := hide b_mm
  have U12 : Below V10.heap.size V10 V10 := Below.refl _ _
  have c_a0 := b_a.out.at0 b_a.out.lt_size (Nat.le_refl _)
  have c_a1 := b_a.out.at1 b_a.out.lt_size (Nat.le_refl _)
  have c_b0 := b_b.out.at0 b_b.out.lt_size (Nat.le_refl _)
  have c_b1 := b_b.out.at1 b_b.out.lt_size (Nat.le_refl _)
  have c_c0 := b_c.out.at0 b_c.out.lt_size (Nat.le_refl _)
  have c_c1 := b_c.out.at1 b_c.out.lt_size (Nat.le_refl _)
  have c_zero0 := b_zero.out.at0 b_zero.out.lt_size (Nat.le_refl _)
  have c_zero1 := b_zero.out.at1 b_zero.out.lt_size (Nat.le_refl _)
  have c_one0 := b_one.out.at0 b_one.out.lt_size (Nat.le_refl _)
  have c_one1 := b_one.out.at1 b_one.out.lt_size (Nat.le_refl _)
  have c_ab0 := b_ab.out.at0 b_ab.out.lt_size (Nat.le_refl _)
  have c_ab1 := b_ab.out.at1 b_ab.out.lt_size (Nat.le_refl _)
  have c_mm0 := b_mm.out.at0 b_mm.out.lt_size (Nat.le_refl _)
  have c_mm1 := b_mm.out.at1 b_mm.out.lt_size (Nat.le_refl _)
  have hd := Below.drw_ V10
  replace R_a := hide (Rd.then_ R_a.out hd)
  replace R_b := hide (Rd.then_ R_b.out hd)
  replace R_c := hide (Rd.then_ R_c.out hd)
  replace R_zero := hide (Rd.then_ R_zero.out hd)
  replace R_one := hide (Rd.then_ R_one.out hd)
  replace R_ab := hide (Rd.then_ R_ab.out hd)
  replace R_mm := hide (Rd.then_ R_mm.out hd)
  have U13 : Below V10.heap.size V10 (V10.drew) := Below.then_ U12 hd
  replace B := hide (Below.then_ B.out hd)
  clear hd
  have tok1 : True := trivial
  go_region_held3 (fun w' => Below V10.heap.size V10 w') (assumption)
    (first
      | (go_at_call 26; (have _t := tok1; (with_reducible refine (iadd_any _ _ _ _ _ _ _ _ _ _ _ _ R_b.out R_a.out (Nat.le_refl _) (by have := L_b.out; omega) (by have := L_a.out; omega)).mono ?_); rw [e2.out]; rintro e w5 ⟨A_x1, c_x1, rfl, R_x1, hb⟩; replace R_a := hide (Rd.then_ R_a.out hb); replace R_b := hide (Rd.then_ R_b.out hb); replace R_c := hide (Rd.then_ R_c.out hb); replace R_zero := hide (Rd.then_ R_zero.out hb); replace R_one := hide (Rd.then_ R_one.out hb); replace R_ab := hide (Rd.then_ R_ab.out hb); replace R_mm := hide (Rd.then_ R_mm.out hb); have U14 : Below V10.heap.size V10 w5 := Below.then_ U13 hb; replace B := hide (Below.then_ B.out hb); replace R_x1 := hide R_x1; clear hb; have tok2 : True := trivial; clear _t tok1))
      | (go_at_call 14; (have _t := tok2; (with_reducible refine (same_eq _ _ _ _ _ _ _ _ _ _ _ R_ab.out R_x1.out rfl rfl).mono ?_); rintro e w6 ⟨rfl, hb⟩; replace R_a := hide (Rd.then_ R_a.out hb); replace R_b := hide (Rd.then_ R_b.out hb); replace R_c := hide (Rd.then_ R_c.out hb); replace R_zero := hide (Rd.then_ R_zero.out hb); replace R_one := hide (Rd.then_ R_one.out hb); replace R_ab := hide (Rd.then_ R_ab.out hb); replace R_mm := hide (Rd.then_ R_mm.out hb); replace R_x1 := hide (Rd.then_ R_x1.out hb); have U15 : Below V10.heap.size V10 w6 := Below.then_ U14 hb; replace B := hide (Below.then_ B.out hb); clear hb; have tok3 : True := trivial; clear _t tok2; clear R_x1))
      | (go_at_call 30; (have _t := tok3; (with_reducible refine (imul_any _ _ _ _ _ _ _ _ _ _ _ _ R_b.out R_a.out (Nat.le_refl _) (by have := L_b.out; have := L_a.out; omega)).mono ?_); rw [e4.out]; rintro e w7 ⟨A_x1, c_x1, rfl, R_x1, hb⟩; replace R_a := hide (Rd.then_ R_a.out hb); replace R_b := hide (Rd.then_ R_b.out hb); replace R_c := hide (Rd.then_ R_c.out hb); replace R_zero := hide (Rd.then_ R_zero.out hb); replace R_one := hide (Rd.then_ R_one.out hb); replace R_ab := hide (Rd.then_ R_ab.out hb); replace R_mm := hide (Rd.then_ R_mm.out hb); have U16 : Below V10.heap.size V10 w7 := Below.then_ U15 hb; replace B := hide (Below.then_ B.out hb); replace R_x1 := hide R_x1; clear hb; have tok4 : True := trivial; clear _t tok3))
      | (go_at_call 14; (have _t := tok4; (with_reducible refine (same_eq _ _ _ _ _ _ _ _ _ _ _ R_mm.out R_x1.out rfl rfl).mono ?_); rintro e w8 ⟨rfl, hb⟩; replace R_a := hide (Rd.then_ R_a.out hb); replace R_b := hide (Rd.then_ R_b.out hb); replace R_c := hide (Rd.then_ R_c.out hb); replace R_zero := hide (Rd.then_ R_zero.out hb); replace R_one := hide (Rd.then_ R_one.out hb); replace R_ab := hide (Rd.then_ R_ab.out hb); replace R_mm := hide (Rd.then_ R_mm.out hb); replace R_x1 := hide (Rd.then_ R_x1.out hb); have U17 : Below V10.heap.size V10 w8 := Below.then_ U16 hb; replace B := hide (Below.then_ B.out hb); clear hb; have tok5 : True := trivial; clear _t tok4; clear R_x1))
      | (go_at_call 26; (have _t := tok5; (with_reducible refine (iadd_any _ _ _ _ _ _ _ _ _ _ _ _ R_ab.out R_c.out (Nat.le_refl _) (by have := L_s.out; omega) (by have := L_c.out; omega)).mono ?_); rw [e5.out]; rintro e w9 ⟨A_x1, c_x1, rfl, R_x1, hb⟩; replace R_a := hide (Rd.then_ R_a.out hb); replace R_b := hide (Rd.then_ R_b.out hb); replace R_c := hide (Rd.then_ R_c.out hb); replace R_zero := hide (Rd.then_ R_zero.out hb); replace R_one := hide (Rd.then_ R_one.out hb); replace R_ab := hide (Rd.then_ R_ab.out hb); replace R_mm := hide (Rd.then_ R_mm.out hb); have U18 : Below V10.heap.size V10 w9 := Below.then_ U17 hb; replace B := hide (Below.then_ B.out hb); replace R_x1 := hide R_x1; clear hb; have tok6 : True := trivial; clear _t tok5))
      | (go_at_call 26; (have _t := tok6; (with_reducible refine (iadd_any _ _ _ _ _ _ _ _ _ _ _ _ R_b.out R_c.out (Nat.le_refl _) (by have := L_b.out; omega) (by have := L_c.out; omega)).mono ?_); rw [e6.out]; rintro e w10 ⟨A_x2, c_x2, rfl, R_x2, hb⟩; replace R_a := hide (Rd.then_ R_a.out hb); replace R_b := hide (Rd.then_ R_b.out hb); replace R_c := hide (Rd.then_ R_c.out hb); replace R_zero := hide (Rd.then_ R_zero.out hb); replace R_one := hide (Rd.then_ R_one.out hb); replace R_ab := hide (Rd.then_ R_ab.out hb); replace R_mm := hide (Rd.then_ R_mm.out hb); replace R_x1 := hide (Rd.then_ R_x1.out hb); have U19 : Below V10.heap.size V10 w10 := Below.then_ U18 hb; replace B := hide (Below.then_ B.out hb); replace R_x2 := hide R_x2; clear hb; have tok7 : True := trivial; clear _t tok6))
      | (go_at_call 26; (have _t := tok7; (with_reducible refine (iadd_any _ _ _ _ _ _ _ _ _ _ _ _ R_a.out R_x2.out (Nat.le_refl _) (by have := L_a.out; omega) (by have := L_bc.out; omega)).mono ?_); rw [e7.out]; rintro e w11 ⟨A_x3, c_x3, rfl, R_x3, hb⟩; replace R_a := hide (Rd.then_ R_a.out hb); replace R_b := hide (Rd.then_ R_b.out hb); replace R_c := hide (Rd.then_ R_c.out hb); replace R_zero := hide (Rd.then_ R_zero.out hb); replace R_one := hide (Rd.then_ R_one.out hb); replace R_ab := hide (Rd.then_ R_ab.out hb); replace R_mm := hide (Rd.then_ R_mm.out hb); replace R_x1 := hide (Rd.then_ R_x1.out hb); replace R_x2 := hide (Rd.then_ R_x2.out hb); have U20 : Below V10.heap.size V10 w11 := Below.then_ U19 hb; replace B := hide (Below.then_ B.out hb); replace R_x3 := hide R_x3; clear hb; have tok8 : True := trivial; clear _t tok7))
      | (go_at_call 14; (have _t := tok8; (with_reducible refine (same_eq _ _ _ _ _ _ _ _ _ _ _ R_x1.out R_x3.out rfl rfl).mono ?_); rintro e w12 ⟨rfl, hb⟩; replace R_a := hide (Rd.then_ R_a.out hb); replace R_b := hide (Rd.then_ R_b.out hb); replace R_c := hide (Rd.then_ R_c.out hb); replace R_zero := hide (Rd.then_ R_zero.out hb); replace R_one := hide (Rd.then_ R_one.out hb); replace R_ab := hide (Rd.then_ R_ab.out hb); replace R_mm := hide (Rd.then_ R_mm.out hb); replace R_x1 := hide (Rd.then_ R_x1.out hb); replace R_x2 := hide (Rd.then_ R_x2.out hb); replace R_x3 := hide (Rd.then_ R_x3.out hb); have U21 : Below V10.heap.size V10 w12 := Below.then_ U20 hb; replace B := hide (Below.then_ B.out hb); clear hb; have tok9 : True := trivial; clear _t tok8; clear R_x1; clear R_x2; clear R_x3)))
  clear tok9
  go_wp2_with fail
  have hd := Below.drw_ w12
  replace R_a := hide (Rd.then_ R_a.out hd)
  replace R_b := hide (Rd.then_ R_b.out hd)
  replace R_c := hide (Rd.then_ R_c.out hd)
  replace R_zero := hide (Rd.then_ R_zero.out hd)
  replace R_one := hide (Rd.then_ R_one.out hd)
  replace R_ab := hide (Rd.then_ R_ab.out hd)
  replace R_mm := hide (Rd.then_ R_mm.out hd)
  have U22 : Below V10.heap.size V10 (w12.drew) := Below.then_ U21 hd
  replace B := hide (Below.then_ B.out hd)
  clear hd
  have tok10 : True := trivial
  go_region_held3 (fun w' => Below V10.heap.size V10 w') (assumption)
    (first
      | (go_at_call 30; (have _t := tok10; (with_reducible refine (imul_any _ _ _ _ _ _ _ _ _ _ _ _ R_mm.out R_c.out (Nat.le_refl _) (by have := L_m.out; have := L_c.out; omega)).mono ?_); rw [e8.out]; rintro e w13 ⟨A_x1, c_x1, rfl, R_x1, hb⟩; replace R_a := hide (Rd.then_ R_a.out hb); replace R_b := hide (Rd.then_ R_b.out hb); replace R_c := hide (Rd.then_ R_c.out hb); replace R_zero := hide (Rd.then_ R_zero.out hb); replace R_one := hide (Rd.then_ R_one.out hb); replace R_ab := hide (Rd.then_ R_ab.out hb); replace R_mm := hide (Rd.then_ R_mm.out hb); have U23 : Below V10.heap.size V10 w13 := Below.then_ U22 hb; replace B := hide (Below.then_ B.out hb); replace R_x1 := hide R_x1; clear hb; have tok11 : True := trivial; clear _t tok10))
      | (go_at_call 30; (have _t := tok11; (with_reducible refine (imul_any _ _ _ _ _ _ _ _ _ _ _ _ R_b.out R_c.out (Nat.le_refl _) (by have := L_b.out; have := L_c.out; omega)).mono ?_); rw [e9.out]; rintro e w14 ⟨A_x2, c_x2, rfl, R_x2, hb⟩; replace R_a := hide (Rd.then_ R_a.out hb); replace R_b := hide (Rd.then_ R_b.out hb); replace R_c := hide (Rd.then_ R_c.out hb); replace R_zero := hide (Rd.then_ R_zero.out hb); replace R_one := hide (Rd.then_ R_one.out hb); replace R_ab := hide (Rd.then_ R_ab.out hb); replace R_mm := hide (Rd.then_ R_mm.out hb); replace R_x1 := hide (Rd.then_ R_x1.out hb); have U24 : Below V10.heap.size V10 w14 := Below.then_ U23 hb; replace B := hide (Below.then_ B.out hb); replace R_x2 := hide R_x2; clear hb; have tok12 : True := trivial; clear _t tok11))
      | (go_at_call 30; (have _t := tok12; (with_reducible refine (imul_any _ _ _ _ _ _ _ _ _ _ _ _ R_a.out R_x2.out (Nat.le_refl _) (by have := L_a.out; have := L_mbc.out; omega)).mono ?_); rw [e10.out]; rintro e w15 ⟨A_x3, c_x3, rfl, R_x3, hb⟩; replace R_a := hide (Rd.then_ R_a.out hb); replace R_b := hide (Rd.then_ R_b.out hb); replace R_c := hide (Rd.then_ R_c.out hb); replace R_zero := hide (Rd.then_ R_zero.out hb); replace R_one := hide (Rd.then_ R_one.out hb); replace R_ab := hide (Rd.then_ R_ab.out hb); replace R_mm := hide (Rd.then_ R_mm.out hb); replace R_x1 := hide (Rd.then_ R_x1.out hb); replace R_x2 := hide (Rd.then_ R_x2.out hb); have U25 : Below V10.heap.size V10 w15 := Below.then_ U24 hb; replace B := hide (Below.then_ B.out hb); replace R_x3 := hide R_x3; clear hb; have tok13 : True := trivial; clear _t tok12))
      | (go_at_call 14; (have _t := tok13; (with_reducible refine (same_eq _ _ _ _ _ _ _ _ _ _ _ R_x1.out R_x3.out rfl rfl).mono ?_); rintro e w16 ⟨rfl, hb⟩; replace R_a := hide (Rd.then_ R_a.out hb); replace R_b := hide (Rd.then_ R_b.out hb); replace R_c := hide (Rd.then_ R_c.out hb); replace R_zero := hide (Rd.then_ R_zero.out hb); replace R_one := hide (Rd.then_ R_one.out hb); replace R_ab := hide (Rd.then_ R_ab.out hb); replace R_mm := hide (Rd.then_ R_mm.out hb); replace R_x1 := hide (Rd.then_ R_x1.out hb); replace R_x2 := hide (Rd.then_ R_x2.out hb); replace R_x3 := hide (Rd.then_ R_x3.out hb); have U26 : Below V10.heap.size V10 w16 := Below.then_ U25 hb; replace B := hide (Below.then_ B.out hb); clear hb; have tok14 : True := trivial; clear _t tok13; clear R_x1; clear R_x2; clear R_x3))
      | (go_at_call 30; (have _t := tok14; (with_reducible refine (imul_any _ _ _ _ _ _ _ _ _ _ _ _ R_ab.out R_c.out (Nat.le_refl _) (by have := L_s.out; have := L_c.out; omega)).mono ?_); rw [e11.out]; rintro e w17 ⟨A_x1, c_x1, rfl, R_x1, hb⟩; replace R_a := hide (Rd.then_ R_a.out hb); replace R_b := hide (Rd.then_ R_b.out hb); replace R_c := hide (Rd.then_ R_c.out hb); replace R_zero := hide (Rd.then_ R_zero.out hb); replace R_one := hide (Rd.then_ R_one.out hb); replace R_ab := hide (Rd.then_ R_ab.out hb); replace R_mm := hide (Rd.then_ R_mm.out hb); have U27 : Below V10.heap.size V10 w17 := Below.then_ U26 hb; replace B := hide (Below.then_ B.out hb); replace R_x1 := hide R_x1; clear hb; have tok15 : True := trivial; clear _t tok14))
      | (go_at_call 30; (have _t := tok15; (with_reducible refine (imul_any _ _ _ _ _ _ _ _ _ _ _ _ R_a.out R_c.out (Nat.le_refl _) (by have := L_a.out; have := L_c.out; omega)).mono ?_); rw [e12.out]; rintro e w18 ⟨A_x2, c_x2, rfl, R_x2, hb⟩; replace R_a := hide (Rd.then_ R_a.out hb); replace R_b := hide (Rd.then_ R_b.out hb); replace R_c := hide (Rd.then_ R_c.out hb); replace R_zero := hide (Rd.then_ R_zero.out hb); replace R_one := hide (Rd.then_ R_one.out hb); replace R_ab := hide (Rd.then_ R_ab.out hb); replace R_mm := hide (Rd.then_ R_mm.out hb); replace R_x1 := hide (Rd.then_ R_x1.out hb); have U28 : Below V10.heap.size V10 w18 := Below.then_ U27 hb; replace B := hide (Below.then_ B.out hb); replace R_x2 := hide R_x2; clear hb; have tok16 : True := trivial; clear _t tok15))
      | (go_at_call 30; (have _t := tok16; (with_reducible refine (imul_any _ _ _ _ _ _ _ _ _ _ _ _ R_b.out R_c.out (Nat.le_refl _) (by have := L_b.out; have := L_c.out; omega)).mono ?_); rw [e9.out]; rintro e w19 ⟨A_x3, c_x3, rfl, R_x3, hb⟩; replace R_a := hide (Rd.then_ R_a.out hb); replace R_b := hide (Rd.then_ R_b.out hb); replace R_c := hide (Rd.then_ R_c.out hb); replace R_zero := hide (Rd.then_ R_zero.out hb); replace R_one := hide (Rd.then_ R_one.out hb); replace R_ab := hide (Rd.then_ R_ab.out hb); replace R_mm := hide (Rd.then_ R_mm.out hb); replace R_x1 := hide (Rd.then_ R_x1.out hb); replace R_x2 := hide (Rd.then_ R_x2.out hb); have U29 : Below V10.heap.size V10 w19 := Below.then_ U28 hb; replace B := hide (Below.then_ B.out hb); replace R_x3 := hide R_x3; clear hb; have tok17 : True := trivial; clear _t tok16))
      | (go_at_call 26; (have _t := tok17; (with_reducible refine (iadd_any _ _ _ _ _ _ _ _ _ _ _ _ R_x2.out R_x3.out (Nat.le_refl _) (by have := L_mac.out; omega) (by have := L_mbc.out; omega)).mono ?_); rw [e13.out]; rintro e w20 ⟨A_x4, c_x4, rfl, R_x4, hb⟩; replace R_a := hide (Rd.then_ R_a.out hb); replace R_b := hide (Rd.then_ R_b.out hb); replace R_c := hide (Rd.then_ R_c.out hb); replace R_zero := hide (Rd.then_ R_zero.out hb); replace R_one := hide (Rd.then_ R_one.out hb); replace R_ab := hide (Rd.then_ R_ab.out hb); replace R_mm := hide (Rd.then_ R_mm.out hb); replace R_x1 := hide (Rd.then_ R_x1.out hb); replace R_x2 := hide (Rd.then_ R_x2.out hb); replace R_x3 := hide (Rd.then_ R_x3.out hb); have U30 : Below V10.heap.size V10 w20 := Below.then_ U29 hb; replace B := hide (Below.then_ B.out hb); replace R_x4 := hide R_x4; clear hb; have tok18 : True := trivial; clear _t tok17))
      | (go_at_call 14; (have _t := tok18; (with_reducible refine (same_eq _ _ _ _ _ _ _ _ _ _ _ R_x1.out R_x4.out rfl rfl).mono ?_); rintro e w21 ⟨rfl, hb⟩; replace R_a := hide (Rd.then_ R_a.out hb); replace R_b := hide (Rd.then_ R_b.out hb); replace R_c := hide (Rd.then_ R_c.out hb); replace R_zero := hide (Rd.then_ R_zero.out hb); replace R_one := hide (Rd.then_ R_one.out hb); replace R_ab := hide (Rd.then_ R_ab.out hb); replace R_mm := hide (Rd.then_ R_mm.out hb); replace R_x1 := hide (Rd.then_ R_x1.out hb); replace R_x2 := hide (Rd.then_ R_x2.out hb); replace R_x3 := hide (Rd.then_ R_x3.out hb); replace R_x4 := hide (Rd.then_ R_x4.out hb); have U31 : Below V10.heap.size V10 w21 := Below.then_ U30 hb; replace B := hide (Below.then_ B.out hb); clear hb; have tok19 : True := trivial; clear _t tok18; clear R_x1; clear R_x2; clear R_x3; clear R_x4)))
  clear tok19
  go_wp2_with fail
  have hd := Below.drw_ w21
  replace R_a := hide (Rd.then_ R_a.out hd)
  replace R_b := hide (Rd.then_ R_b.out hd)
  replace R_c := hide (Rd.then_ R_c.out hd)
  replace R_zero := hide (Rd.then_ R_zero.out hd)
  replace R_one := hide (Rd.then_ R_one.out hd)
  replace R_ab := hide (Rd.then_ R_ab.out hd)
  replace R_mm := hide (Rd.then_ R_mm.out hd)
  have U32 : Below V10.heap.size V10 (w21.drew) := Below.then_ U31 hd
  replace B := hide (Below.then_ B.out hd)
  clear hd
  have tok20 : True := trivial
  go_region_held3 (fun w' => Below V10.heap.size V10 w') (assumption)
    (first
      | (go_at_call 26; (have _t := tok20; (with_reducible refine (iadd_any _ _ _ _ _ _ _ _ _ _ _ _ R_a.out R_zero.out (Nat.le_refl _) (by have := L_a.out; omega) (by have := L_zero.out; omega)).mono ?_); rw [e14.out]; rintro e w22 ⟨A_x1, c_x1, rfl, R_x1, hb⟩; replace R_a := hide (Rd.then_ R_a.out hb); replace R_b := hide (Rd.then_ R_b.out hb); replace R_c := hide (Rd.then_ R_c.out hb); replace R_zero := hide (Rd.then_ R_zero.out hb); replace R_one := hide (Rd.then_ R_one.out hb); replace R_ab := hide (Rd.then_ R_ab.out hb); replace R_mm := hide (Rd.then_ R_mm.out hb); have U33 : Below V10.heap.size V10 w22 := Below.then_ U32 hb; replace B := hide (Below.then_ B.out hb); replace R_x1 := hide R_x1; clear hb; have tok21 : True := trivial; clear _t tok20))
      | (go_at_call 19; (have _t := tok21; (with_reducible refine (inorm_any _ _ _ _ _ _ _ R_a.out (Nat.le_refl _)).mono ?_); rw [e15.out]; rintro e w23 ⟨A_x2, c_x2, rfl, R_x2, hb⟩; replace R_a := hide (Rd.then_ R_a.out hb); replace R_b := hide (Rd.then_ R_b.out hb); replace R_c := hide (Rd.then_ R_c.out hb); replace R_zero := hide (Rd.then_ R_zero.out hb); replace R_one := hide (Rd.then_ R_one.out hb); replace R_ab := hide (Rd.then_ R_ab.out hb); replace R_mm := hide (Rd.then_ R_mm.out hb); replace R_x1 := hide (Rd.then_ R_x1.out hb); have U34 : Below V10.heap.size V10 w23 := Below.then_ U33 hb; replace B := hide (Below.then_ B.out hb); replace R_x2 := hide R_x2; clear hb; have tok22 : True := trivial; clear _t tok21))
      | (go_at_call 14; (have _t := tok22; (with_reducible refine (same_eq _ _ _ _ _ _ _ _ _ _ _ R_x1.out R_x2.out rfl rfl).mono ?_); rintro e w24 ⟨rfl, hb⟩; replace R_a := hide (Rd.then_ R_a.out hb); replace R_b := hide (Rd.then_ R_b.out hb); replace R_c := hide (Rd.then_ R_c.out hb); replace R_zero := hide (Rd.then_ R_zero.out hb); replace R_one := hide (Rd.then_ R_one.out hb); replace R_ab := hide (Rd.then_ R_ab.out hb); replace R_mm := hide (Rd.then_ R_mm.out hb); replace R_x1 := hide (Rd.then_ R_x1.out hb); replace R_x2 := hide (Rd.then_ R_x2.out hb); have U35 : Below V10.heap.size V10 w24 := Below.then_ U34 hb; replace B := hide (Below.then_ B.out hb); clear hb; have tok23 : True := trivial; clear _t tok22; clear R_x1; clear R_x2))
      | (go_at_call 30; (have _t := tok23; (with_reducible refine (imul_any _ _ _ _ _ _ _ _ _ _ _ _ R_a.out R_one.out (Nat.le_refl _) (by have := L_a.out; have := L_one.out; omega)).mono ?_); rw [e16.out]; rintro e w25 ⟨A_x1, c_x1, rfl, R_x1, hb⟩; replace R_a := hide (Rd.then_ R_a.out hb); replace R_b := hide (Rd.then_ R_b.out hb); replace R_c := hide (Rd.then_ R_c.out hb); replace R_zero := hide (Rd.then_ R_zero.out hb); replace R_one := hide (Rd.then_ R_one.out hb); replace R_ab := hide (Rd.then_ R_ab.out hb); replace R_mm := hide (Rd.then_ R_mm.out hb); have U36 : Below V10.heap.size V10 w25 := Below.then_ U35 hb; replace B := hide (Below.then_ B.out hb); replace R_x1 := hide R_x1; clear hb; have tok24 : True := trivial; clear _t tok23))
      | (go_at_call 19; (have _t := tok24; (with_reducible refine (inorm_any _ _ _ _ _ _ _ R_a.out (Nat.le_refl _)).mono ?_); rw [e15.out]; rintro e w26 ⟨A_x2, c_x2, rfl, R_x2, hb⟩; replace R_a := hide (Rd.then_ R_a.out hb); replace R_b := hide (Rd.then_ R_b.out hb); replace R_c := hide (Rd.then_ R_c.out hb); replace R_zero := hide (Rd.then_ R_zero.out hb); replace R_one := hide (Rd.then_ R_one.out hb); replace R_ab := hide (Rd.then_ R_ab.out hb); replace R_mm := hide (Rd.then_ R_mm.out hb); replace R_x1 := hide (Rd.then_ R_x1.out hb); have U37 : Below V10.heap.size V10 w26 := Below.then_ U36 hb; replace B := hide (Below.then_ B.out hb); replace R_x2 := hide R_x2; clear hb; have tok25 : True := trivial; clear _t tok24))
      | (go_at_call 14; (have _t := tok25; (with_reducible refine (same_eq _ _ _ _ _ _ _ _ _ _ _ R_x1.out R_x2.out rfl rfl).mono ?_); rintro e w27 ⟨rfl, hb⟩; replace R_a := hide (Rd.then_ R_a.out hb); replace R_b := hide (Rd.then_ R_b.out hb); replace R_c := hide (Rd.then_ R_c.out hb); replace R_zero := hide (Rd.then_ R_zero.out hb); replace R_one := hide (Rd.then_ R_one.out hb); replace R_ab := hide (Rd.then_ R_ab.out hb); replace R_mm := hide (Rd.then_ R_mm.out hb); replace R_x1 := hide (Rd.then_ R_x1.out hb); replace R_x2 := hide (Rd.then_ R_x2.out hb); have U38 : Below V10.heap.size V10 w27 := Below.then_ U37 hb; replace B := hide (Below.then_ B.out hb); clear hb; have tok26 : True := trivial; clear _t tok25; clear R_x1; clear R_x2))
      | (go_at_call 30; (have _t := tok26; (with_reducible refine (imul_any _ _ _ _ _ _ _ _ _ _ _ _ R_a.out R_zero.out (Nat.le_refl _) (by have := L_a.out; have := L_zero.out; omega)).mono ?_); rw [e17.out]; rintro e w28 ⟨A_x1, c_x1, rfl, R_x1, hb⟩; replace R_a := hide (Rd.then_ R_a.out hb); replace R_b := hide (Rd.then_ R_b.out hb); replace R_c := hide (Rd.then_ R_c.out hb); replace R_zero := hide (Rd.then_ R_zero.out hb); replace R_one := hide (Rd.then_ R_one.out hb); replace R_ab := hide (Rd.then_ R_ab.out hb); replace R_mm := hide (Rd.then_ R_mm.out hb); have U39 : Below V10.heap.size V10 w28 := Below.then_ U38 hb; replace B := hide (Below.then_ B.out hb); replace R_x1 := hide R_x1; clear hb; have tok27 : True := trivial; clear _t tok26))
      | (go_at_call 14; (have _t := tok27; (with_reducible refine (same_eq _ _ _ _ _ _ _ _ _ _ _ R_x1.out R_zero.out rfl rfl).mono ?_); rintro e w29 ⟨rfl, hb⟩; replace R_a := hide (Rd.then_ R_a.out hb); replace R_b := hide (Rd.then_ R_b.out hb); replace R_c := hide (Rd.then_ R_c.out hb); replace R_zero := hide (Rd.then_ R_zero.out hb); replace R_one := hide (Rd.then_ R_one.out hb); replace R_ab := hide (Rd.then_ R_ab.out hb); replace R_mm := hide (Rd.then_ R_mm.out hb); replace R_x1 := hide (Rd.then_ R_x1.out hb); have U40 : Below V10.heap.size V10 w29 := Below.then_ U39 hb; replace B := hide (Below.then_ B.out hb); clear hb; have tok28 : True := trivial; clear _t tok27; clear R_x1)))
  clear tok28
  go_wp2_with fail
  have hd := Below.drw_ w29
  replace R_a := hide (Rd.then_ R_a.out hd)
  replace R_b := hide (Rd.then_ R_b.out hd)
  replace R_c := hide (Rd.then_ R_c.out hd)
  replace R_zero := hide (Rd.then_ R_zero.out hd)
  replace R_one := hide (Rd.then_ R_one.out hd)
  replace R_ab := hide (Rd.then_ R_ab.out hd)
  replace R_mm := hide (Rd.then_ R_mm.out hd)
  have U41 : Below V10.heap.size V10 (w29.drew) := Below.then_ U40 hd
  replace B := hide (Below.then_ B.out hd)
  clear hd
  have tok29 : True := trivial
  go_region_held3 (fun w' => Below V10.heap.size V10 w') (assumption)
    (first
      | (go_at_call 21; (have _t := tok29; (with_reducible refine (ineg_any _ _ _ _ _ _ _ R_a.out (Nat.le_refl _)).mono ?_); rw [e18.out]; rintro e w30 ⟨A_x1, c_x1, rfl, R_x1, hb⟩; replace R_a := hide (Rd.then_ R_a.out hb); replace R_b := hide (Rd.then_ R_b.out hb); replace R_c := hide (Rd.then_ R_c.out hb); replace R_zero := hide (Rd.then_ R_zero.out hb); replace R_one := hide (Rd.then_ R_one.out hb); replace R_ab := hide (Rd.then_ R_ab.out hb); replace R_mm := hide (Rd.then_ R_mm.out hb); have U42 : Below V10.heap.size V10 w30 := Below.then_ U41 hb; replace B := hide (Below.then_ B.out hb); replace R_x1 := hide R_x1; clear hb; have tok30 : True := trivial; clear _t tok29))
      | (go_at_call 26; (have _t := tok30; (with_reducible refine (iadd_any _ _ _ _ _ _ _ _ _ _ _ _ R_a.out R_x1.out (Nat.le_refl _) (by have := L_a.out; omega) (by have := L_ma.out; omega)).mono ?_); rw [e19.out]; rintro e w31 ⟨A_x2, c_x2, rfl, R_x2, hb⟩; replace R_a := hide (Rd.then_ R_a.out hb); replace R_b := hide (Rd.then_ R_b.out hb); replace R_c := hide (Rd.then_ R_c.out hb); replace R_zero := hide (Rd.then_ R_zero.out hb); replace R_one := hide (Rd.then_ R_one.out hb); replace R_ab := hide (Rd.then_ R_ab.out hb); replace R_mm := hide (Rd.then_ R_mm.out hb); replace R_x1 := hide (Rd.then_ R_x1.out hb); have U43 : Below V10.heap.size V10 w31 := Below.then_ U42 hb; replace B := hide (Below.then_ B.out hb); replace R_x2 := hide R_x2; clear hb; have tok31 : True := trivial; clear _t tok30))
      | (go_at_call 14; (have _t := tok31; (with_reducible refine (same_eq _ _ _ _ _ _ _ _ _ _ _ R_x2.out R_zero.out rfl rfl).mono ?_); rintro e w32 ⟨rfl, hb⟩; replace R_a := hide (Rd.then_ R_a.out hb); replace R_b := hide (Rd.then_ R_b.out hb); replace R_c := hide (Rd.then_ R_c.out hb); replace R_zero := hide (Rd.then_ R_zero.out hb); replace R_one := hide (Rd.then_ R_one.out hb); replace R_ab := hide (Rd.then_ R_ab.out hb); replace R_mm := hide (Rd.then_ R_mm.out hb); replace R_x1 := hide (Rd.then_ R_x1.out hb); replace R_x2 := hide (Rd.then_ R_x2.out hb); have U44 : Below V10.heap.size V10 w32 := Below.then_ U43 hb; replace B := hide (Below.then_ B.out hb); clear hb; have tok32 : True := trivial; clear _t tok31; clear R_x1; clear R_x2))
      | (go_at_call 28; (have _t := tok32; (with_reducible refine (isub_any _ _ _ _ _ _ _ _ _ _ _ _ R_a.out R_b.out (Nat.le_refl _) (by have := L_a.out; omega) (by have := L_b.out; omega)).mono ?_); rw [e20.out]; rintro e w33 ⟨A_x1, c_x1, rfl, R_x1, hb⟩; replace R_a := hide (Rd.then_ R_a.out hb); replace R_b := hide (Rd.then_ R_b.out hb); replace R_c := hide (Rd.then_ R_c.out hb); replace R_zero := hide (Rd.then_ R_zero.out hb); replace R_one := hide (Rd.then_ R_one.out hb); replace R_ab := hide (Rd.then_ R_ab.out hb); replace R_mm := hide (Rd.then_ R_mm.out hb); have U45 : Below V10.heap.size V10 w33 := Below.then_ U44 hb; replace B := hide (Below.then_ B.out hb); replace R_x1 := hide R_x1; clear hb; have tok33 : True := trivial; clear _t tok32))
      | (go_at_call 21; (have _t := tok33; (with_reducible refine (ineg_any _ _ _ _ _ _ _ R_b.out (Nat.le_refl _)).mono ?_); rw [e21.out]; rintro e w34 ⟨A_x2, c_x2, rfl, R_x2, hb⟩; replace R_a := hide (Rd.then_ R_a.out hb); replace R_b := hide (Rd.then_ R_b.out hb); replace R_c := hide (Rd.then_ R_c.out hb); replace R_zero := hide (Rd.then_ R_zero.out hb); replace R_one := hide (Rd.then_ R_one.out hb); replace R_ab := hide (Rd.then_ R_ab.out hb); replace R_mm := hide (Rd.then_ R_mm.out hb); replace R_x1 := hide (Rd.then_ R_x1.out hb); have U46 : Below V10.heap.size V10 w34 := Below.then_ U45 hb; replace B := hide (Below.then_ B.out hb); replace R_x2 := hide R_x2; clear hb; have tok34 : True := trivial; clear _t tok33))
      | (go_at_call 26; (have _t := tok34; (with_reducible refine (iadd_any _ _ _ _ _ _ _ _ _ _ _ _ R_a.out R_x2.out (Nat.le_refl _) (by have := L_a.out; omega) (by have := L_mb.out; omega)).mono ?_); rw [e22.out]; rintro e w35 ⟨A_x3, c_x3, rfl, R_x3, hb⟩; replace R_a := hide (Rd.then_ R_a.out hb); replace R_b := hide (Rd.then_ R_b.out hb); replace R_c := hide (Rd.then_ R_c.out hb); replace R_zero := hide (Rd.then_ R_zero.out hb); replace R_one := hide (Rd.then_ R_one.out hb); replace R_ab := hide (Rd.then_ R_ab.out hb); replace R_mm := hide (Rd.then_ R_mm.out hb); replace R_x1 := hide (Rd.then_ R_x1.out hb); replace R_x2 := hide (Rd.then_ R_x2.out hb); have U47 : Below V10.heap.size V10 w35 := Below.then_ U46 hb; replace B := hide (Below.then_ B.out hb); replace R_x3 := hide R_x3; clear hb; have tok35 : True := trivial; clear _t tok34))
      | (go_at_call 14; (have _t := tok35; (with_reducible refine (same_eq _ _ _ _ _ _ _ _ _ _ _ R_x1.out R_x3.out rfl rfl).mono ?_); rintro e w36 ⟨rfl, hb⟩; replace R_a := hide (Rd.then_ R_a.out hb); replace R_b := hide (Rd.then_ R_b.out hb); replace R_c := hide (Rd.then_ R_c.out hb); replace R_zero := hide (Rd.then_ R_zero.out hb); replace R_one := hide (Rd.then_ R_one.out hb); replace R_ab := hide (Rd.then_ R_ab.out hb); replace R_mm := hide (Rd.then_ R_mm.out hb); replace R_x1 := hide (Rd.then_ R_x1.out hb); replace R_x2 := hide (Rd.then_ R_x2.out hb); replace R_x3 := hide (Rd.then_ R_x3.out hb); have U48 : Below V10.heap.size V10 w36 := Below.then_ U47 hb; replace B := hide (Below.then_ B.out hb); clear hb; have tok36 : True := trivial; clear _t tok35; clear R_x1; clear R_x2; clear R_x3))
      | (go_at_call 21; (have _t := tok36; (with_reducible refine (ineg_any _ _ _ _ _ _ _ R_a.out (Nat.le_refl _)).mono ?_); rw [e18.out]; rintro e w37 ⟨A_x1, c_x1, rfl, R_x1, hb⟩; replace R_a := hide (Rd.then_ R_a.out hb); replace R_b := hide (Rd.then_ R_b.out hb); replace R_c := hide (Rd.then_ R_c.out hb); replace R_zero := hide (Rd.then_ R_zero.out hb); replace R_one := hide (Rd.then_ R_one.out hb); replace R_ab := hide (Rd.then_ R_ab.out hb); replace R_mm := hide (Rd.then_ R_mm.out hb); have U49 : Below V10.heap.size V10 w37 := Below.then_ U48 hb; replace B := hide (Below.then_ B.out hb); replace R_x1 := hide R_x1; clear hb; have tok37 : True := trivial; clear _t tok36))
      | (go_at_call 21; (have _t := tok37; (with_reducible refine (ineg_any _ _ _ _ _ _ _ R_x1.out (Nat.le_refl _)).mono ?_); rw [e23.out]; rintro e w38 ⟨A_x2, c_x2, rfl, R_x2, hb⟩; replace R_a := hide (Rd.then_ R_a.out hb); replace R_b := hide (Rd.then_ R_b.out hb); replace R_c := hide (Rd.then_ R_c.out hb); replace R_zero := hide (Rd.then_ R_zero.out hb); replace R_one := hide (Rd.then_ R_one.out hb); replace R_ab := hide (Rd.then_ R_ab.out hb); replace R_mm := hide (Rd.then_ R_mm.out hb); replace R_x1 := hide (Rd.then_ R_x1.out hb); have U50 : Below V10.heap.size V10 w38 := Below.then_ U49 hb; replace B := hide (Below.then_ B.out hb); replace R_x2 := hide R_x2; clear hb; have tok38 : True := trivial; clear _t tok37))
      | (go_at_call 19; (have _t := tok38; (with_reducible refine (inorm_any _ _ _ _ _ _ _ R_a.out (Nat.le_refl _)).mono ?_); rw [e15.out]; rintro e w39 ⟨A_x3, c_x3, rfl, R_x3, hb⟩; replace R_a := hide (Rd.then_ R_a.out hb); replace R_b := hide (Rd.then_ R_b.out hb); replace R_c := hide (Rd.then_ R_c.out hb); replace R_zero := hide (Rd.then_ R_zero.out hb); replace R_one := hide (Rd.then_ R_one.out hb); replace R_ab := hide (Rd.then_ R_ab.out hb); replace R_mm := hide (Rd.then_ R_mm.out hb); replace R_x1 := hide (Rd.then_ R_x1.out hb); replace R_x2 := hide (Rd.then_ R_x2.out hb); have U51 : Below V10.heap.size V10 w39 := Below.then_ U50 hb; replace B := hide (Below.then_ B.out hb); replace R_x3 := hide R_x3; clear hb; have tok39 : True := trivial; clear _t tok38))
      | (go_at_call 14; (have _t := tok39; (with_reducible refine (same_eq _ _ _ _ _ _ _ _ _ _ _ R_x2.out R_x3.out rfl rfl).mono ?_); rintro e w40 ⟨rfl, hb⟩; replace R_a := hide (Rd.then_ R_a.out hb); replace R_b := hide (Rd.then_ R_b.out hb); replace R_c := hide (Rd.then_ R_c.out hb); replace R_zero := hide (Rd.then_ R_zero.out hb); replace R_one := hide (Rd.then_ R_one.out hb); replace R_ab := hide (Rd.then_ R_ab.out hb); replace R_mm := hide (Rd.then_ R_mm.out hb); replace R_x1 := hide (Rd.then_ R_x1.out hb); replace R_x2 := hide (Rd.then_ R_x2.out hb); replace R_x3 := hide (Rd.then_ R_x3.out hb); have U52 : Below V10.heap.size V10 w40 := Below.then_ U51 hb; replace B := hide (Below.then_ B.out hb); clear hb; have tok40 : True := trivial; clear _t tok39; clear R_x1; clear R_x2; clear R_x3)))
  clear tok40
  go_wp2_with fail
  by_cases hp0 : p = 0
  · have _t : True := trivial
    have pz : (p == 0) = true := by simpa using hp0
    have pqz : (p * q == 0) = true := by rw [beq_iff_eq, hp0, Int.zero_mul]
    have wv' := wv.out
    clear hp0
    have hd := Below.drw_ w40
    replace R_a := hide (Rd.then_ R_a.out hd)
    replace R_b := hide (Rd.then_ R_b.out hd)
    replace R_c := hide (Rd.then_ R_c.out hd)
    replace R_zero := hide (Rd.then_ R_zero.out hd)
    replace R_one := hide (Rd.then_ R_one.out hd)
    replace R_ab := hide (Rd.then_ R_ab.out hd)
    replace R_mm := hide (Rd.then_ R_mm.out hd)
    have U53 : Below V10.heap.size V10 (w40.drew) := Below.then_ U52 hd
    replace B := hide (Below.then_ B.out hd)
    clear hd
    refine region_seq (S := fun w' => Below V10.heap.size V10 w') [(true, 0), (true, 3), (false, 1), (true, 2), (false, 4), (true, 5), (true, 6), (true, 7), (false, 8), (true, 9), (true, 10), (true, 11), (true, 12), (true, 13), (true, 15), (true, 17), (false, 14), (false, 16), (false, 18), (true, 19), (true, 20), (true, 21), (true, 22), (false, 23), (true, 24), (true, 25)] (by kernel_rfl) (by kernel_rfl) (by kernel_rfl) (by decide) U53 ?_
    simp only [List.map_cons, List.map_nil, List.getElem?_toArray, List.getElem?_cons_succ, List.getElem?_cons_zero]
    repeat (first | ((with_reducible refine seq_take (v := ?_) ?_ ?_ ?_); rotate_left; (exact rfl); (focus (intro w' hSw; go_simp; try with_reducible rfl)); (try simp only [Act.put, List.setIfInBounds_toArray, List.set_cons_zero, List.set_cons_succ])) | ((with_reducible refine seq_pass ?_ ?_); (exact rfl); (try simp only [Act.put, List.setIfInBounds_toArray, List.set_cons_zero, List.set_cons_succ])))
    (with_reducible refine seq_call ?_ (fun K hK => ?_))
    (exact rfl)
    go_simp
    refine (isign_any _ _ _ _ _ _ _ R_mm.out (Nat.le_refl _)).mono ?_
    rw [f3.out]
    rintro e w41 ⟨rfl, hb⟩
    replace R_a := hide (Rd.then_ R_a.out hb)
    replace R_b := hide (Rd.then_ R_b.out hb)
    replace R_c := hide (Rd.then_ R_c.out hb)
    replace R_zero := hide (Rd.then_ R_zero.out hb)
    replace R_one := hide (Rd.then_ R_one.out hb)
    replace R_ab := hide (Rd.then_ R_ab.out hb)
    replace R_mm := hide (Rd.then_ R_mm.out hb)
    have U54 : Below V10.heap.size V10 w41 := Below.then_ U53 hb
    replace B := hide (Below.then_ B.out hb)
    clear hb
    refine hK.out _ _ U54 ?_
    clear hK K
    (try simp only [Act.put, List.setIfInBounds_toArray, List.set_cons_zero, List.set_cons_succ])
    repeat (first | ((with_reducible refine seq_take (v := ?_) ?_ ?_ ?_); rotate_left; (exact rfl); (focus (intro w' hSw; go_simp; try with_reducible rfl)); (try simp only [Act.put, List.setIfInBounds_toArray, List.set_cons_zero, List.set_cons_succ])) | ((with_reducible refine seq_pass ?_ ?_); (exact rfl); (try simp only [Act.put, List.setIfInBounds_toArray, List.set_cons_zero, List.set_cons_succ])))
    (with_reducible refine seq_call ?_ (fun K hK => ?_))
    (exact rfl)
    go_simp
    refine (isign_any _ _ _ _ _ _ _ R_a.out (Nat.le_refl _)).mono ?_
    rw [f1.out]
    rintro e w42 ⟨rfl, hb⟩
    replace R_a := hide (Rd.then_ R_a.out hb)
    replace R_b := hide (Rd.then_ R_b.out hb)
    replace R_c := hide (Rd.then_ R_c.out hb)
    replace R_zero := hide (Rd.then_ R_zero.out hb)
    replace R_one := hide (Rd.then_ R_one.out hb)
    replace R_ab := hide (Rd.then_ R_ab.out hb)
    replace R_mm := hide (Rd.then_ R_mm.out hb)
    have U55 : Below V10.heap.size V10 w42 := Below.then_ U54 hb
    replace B := hide (Below.then_ B.out hb)
    clear hb
    refine hK.out _ _ U55 ?_
    clear hK K
    (try simp only [Act.put, List.setIfInBounds_toArray, List.set_cons_zero, List.set_cons_succ])
    repeat (first | ((with_reducible refine seq_take (v := ?_) ?_ ?_ ?_); rotate_left; (exact rfl); (focus (intro w' hSw; go_simp; try with_reducible rfl)); (try simp only [Act.put, List.setIfInBounds_toArray, List.set_cons_zero, List.set_cons_succ])) | ((with_reducible refine seq_pass ?_ ?_); (exact rfl); (try simp only [Act.put, List.setIfInBounds_toArray, List.set_cons_zero, List.set_cons_succ])))
    (with_reducible refine seq_idle ?_ U55 ?_)
    (exact rfl)
    (try simp only [Act.put, List.setIfInBounds_toArray, List.set_cons_zero, List.set_cons_succ])
    repeat (first | ((with_reducible refine seq_take (v := ?_) ?_ ?_ ?_); rotate_left; (exact rfl); (focus (intro w' hSw; go_simp; try with_reducible rfl)); (try simp only [Act.put, List.setIfInBounds_toArray, List.set_cons_zero, List.set_cons_succ])) | ((with_reducible refine seq_pass ?_ ?_); (exact rfl); (try simp only [Act.put, List.setIfInBounds_toArray, List.set_cons_zero, List.set_cons_succ])))
    (with_reducible refine seq_call ?_ (fun K hK => ?_))
    (exact rfl)
    go_simp
    refine (isign_any _ _ _ _ _ _ _ R_mm.out (Nat.le_refl _)).mono ?_
    rw [f3.out]
    rintro e w43 ⟨rfl, hb⟩
    replace R_a := hide (Rd.then_ R_a.out hb)
    replace R_b := hide (Rd.then_ R_b.out hb)
    replace R_c := hide (Rd.then_ R_c.out hb)
    replace R_zero := hide (Rd.then_ R_zero.out hb)
    replace R_one := hide (Rd.then_ R_one.out hb)
    replace R_ab := hide (Rd.then_ R_ab.out hb)
    replace R_mm := hide (Rd.then_ R_mm.out hb)
    have U56 : Below V10.heap.size V10 w43 := Below.then_ U55 hb
    replace B := hide (Below.then_ B.out hb)
    clear hb
    refine hK.out _ _ U56 ?_
    clear hK K
    (try simp only [Act.put, List.setIfInBounds_toArray, List.set_cons_zero, List.set_cons_succ])
    repeat (first | ((with_reducible refine seq_take (v := ?_) ?_ ?_ ?_); rotate_left; (exact rfl); (focus (intro w' hSw; go_simp; try with_reducible rfl)); (try simp only [Act.put, List.setIfInBounds_toArray, List.set_cons_zero, List.set_cons_succ])) | ((with_reducible refine seq_pass ?_ ?_); (exact rfl); (try simp only [Act.put, List.setIfInBounds_toArray, List.set_cons_zero, List.set_cons_succ])))
    (with_reducible refine seq_call ?_ (fun K hK => ?_))
    (exact rfl)
    go_simp
    refine (isign_any _ _ _ _ _ _ _ R_a.out (Nat.le_refl _)).mono ?_
    rw [f1.out]
    rintro e w44 ⟨rfl, hb⟩
    replace R_a := hide (Rd.then_ R_a.out hb)
    replace R_b := hide (Rd.then_ R_b.out hb)
    replace R_c := hide (Rd.then_ R_c.out hb)
    replace R_zero := hide (Rd.then_ R_zero.out hb)
    replace R_one := hide (Rd.then_ R_one.out hb)
    replace R_ab := hide (Rd.then_ R_ab.out hb)
    replace R_mm := hide (Rd.then_ R_mm.out hb)
    have U57 : Below V10.heap.size V10 w44 := Below.then_ U56 hb
    replace B := hide (Below.then_ B.out hb)
    clear hb
    refine hK.out _ _ U57 ?_
    clear hK K
    (try simp only [Act.put, List.setIfInBounds_toArray, List.set_cons_zero, List.set_cons_succ])
    repeat (first | ((with_reducible refine seq_take (v := ?_) ?_ ?_ ?_); rotate_left; (exact rfl); (focus (intro w' hSw; go_simp; try with_reducible rfl)); (try simp only [Act.put, List.setIfInBounds_toArray, List.set_cons_zero, List.set_cons_succ])) | ((with_reducible refine seq_pass ?_ ?_); (exact rfl); (try simp only [Act.put, List.setIfInBounds_toArray, List.set_cons_zero, List.set_cons_succ])))
    (with_reducible refine seq_call ?_ (fun K hK => ?_))
    (exact rfl)
    go_simp
    refine (isign_any _ _ _ _ _ _ _ R_b.out (Nat.le_refl _)).mono ?_
    rw [f2.out]
    rintro e w45 ⟨rfl, hb⟩
    replace R_a := hide (Rd.then_ R_a.out hb)
    replace R_b := hide (Rd.then_ R_b.out hb)
    replace R_c := hide (Rd.then_ R_c.out hb)
    replace R_zero := hide (Rd.then_ R_zero.out hb)
    replace R_one := hide (Rd.then_ R_one.out hb)
    replace R_ab := hide (Rd.then_ R_ab.out hb)
    replace R_mm := hide (Rd.then_ R_mm.out hb)
    have U58 : Below V10.heap.size V10 w45 := Below.then_ U57 hb
    replace B := hide (Below.then_ B.out hb)
    clear hb
    refine hK.out _ _ U58 ?_
    clear hK K
    (try simp only [Act.put, List.setIfInBounds_toArray, List.set_cons_zero, List.set_cons_succ])
    repeat (first | ((with_reducible refine seq_take (v := ?_) ?_ ?_ ?_); rotate_left; (exact rfl); (focus (intro w' hSw; go_simp; try with_reducible rfl)); (try simp only [Act.put, List.setIfInBounds_toArray, List.set_cons_zero, List.set_cons_succ])) | ((with_reducible refine seq_pass ?_ ?_); (exact rfl); (try simp only [Act.put, List.setIfInBounds_toArray, List.set_cons_zero, List.set_cons_succ])))
    (with_reducible refine seq_call ?_ (fun K hK => ?_))
    (exact rfl)
    go_simp
    refine (awake_any _).mono ?_
    rintro e w46 ⟨rfl, hb⟩
    replace R_a := hide (Rd.then_ R_a.out hb)
    replace R_b := hide (Rd.then_ R_b.out hb)
    replace R_c := hide (Rd.then_ R_c.out hb)
    replace R_zero := hide (Rd.then_ R_zero.out hb)
    replace R_one := hide (Rd.then_ R_one.out hb)
    replace R_ab := hide (Rd.then_ R_ab.out hb)
    replace R_mm := hide (Rd.then_ R_mm.out hb)
    have U59 : Below V10.heap.size V10 w46 := Below.then_ U58 hb
    replace B := hide (Below.then_ B.out hb)
    clear hb
    refine hK.out _ _ U59 ?_
    clear hK K
    (try simp only [Act.put, List.setIfInBounds_toArray, List.set_cons_zero, List.set_cons_succ])
    repeat (first | ((with_reducible refine seq_take (v := ?_) ?_ ?_ ?_); rotate_left; (exact rfl); (focus (intro w' hSw; go_simp; try with_reducible rfl)); (try simp only [Act.put, List.setIfInBounds_toArray, List.set_cons_zero, List.set_cons_succ])) | ((with_reducible refine seq_pass ?_ ?_); (exact rfl); (try simp only [Act.put, List.setIfInBounds_toArray, List.set_cons_zero, List.set_cons_succ])))
    refine seq_done ?_
    go_wp2
    go_ret
    exact ⟨rfl, B.out⟩
  by_cases hq0 : q = 0
  · have _t : True := trivial
    have pz : (p == 0) = false := by simpa using hp0
    have qz : (q == 0) = true := by simpa using hq0
    have pqz : (p * q == 0) = true := by rw [beq_iff_eq, hq0, Int.mul_zero]
    have wv' := wv.out
    clear hp0 hq0
    have hd := Below.drw_ w40
    replace R_a := hide (Rd.then_ R_a.out hd)
    replace R_b := hide (Rd.then_ R_b.out hd)
    replace R_c := hide (Rd.then_ R_c.out hd)
    replace R_zero := hide (Rd.then_ R_zero.out hd)
    replace R_one := hide (Rd.then_ R_one.out hd)
    replace R_ab := hide (Rd.then_ R_ab.out hd)
    replace R_mm := hide (Rd.then_ R_mm.out hd)
    have U53 : Below V10.heap.size V10 (w40.drew) := Below.then_ U52 hd
    replace B := hide (Below.then_ B.out hd)
    clear hd
    have tok41 : True := trivial
    go_region_held3 (fun w' => Below V10.heap.size V10 w') (assumption)
      (first
        | (go_at_call 12; (have _t := tok41; (with_reducible refine (isign_any _ _ _ _ _ _ _ R_mm.out (Nat.le_refl _)).mono ?_); rw [f3.out]; rintro e w41 ⟨rfl, hb⟩; replace R_a := hide (Rd.then_ R_a.out hb); replace R_b := hide (Rd.then_ R_b.out hb); replace R_c := hide (Rd.then_ R_c.out hb); replace R_zero := hide (Rd.then_ R_zero.out hb); replace R_one := hide (Rd.then_ R_one.out hb); replace R_ab := hide (Rd.then_ R_ab.out hb); replace R_mm := hide (Rd.then_ R_mm.out hb); have U54 : Below V10.heap.size V10 w41 := Below.then_ U53 hb; replace B := hide (Below.then_ B.out hb); clear hb; have tok42 : True := trivial; clear _t tok41))
        | (go_at_call 12; (have _t := tok42; (with_reducible refine (isign_any _ _ _ _ _ _ _ R_a.out (Nat.le_refl _)).mono ?_); rw [f1.out]; rintro e w42 ⟨rfl, hb⟩; replace R_a := hide (Rd.then_ R_a.out hb); replace R_b := hide (Rd.then_ R_b.out hb); replace R_c := hide (Rd.then_ R_c.out hb); replace R_zero := hide (Rd.then_ R_zero.out hb); replace R_one := hide (Rd.then_ R_one.out hb); replace R_ab := hide (Rd.then_ R_ab.out hb); replace R_mm := hide (Rd.then_ R_mm.out hb); have U55 : Below V10.heap.size V10 w42 := Below.then_ U54 hb; replace B := hide (Below.then_ B.out hb); clear hb; have tok43 : True := trivial; clear _t tok42))
        | (go_at_call 12; (have _t := tok43; (with_reducible refine (isign_any _ _ _ _ _ _ _ R_b.out (Nat.le_refl _)).mono ?_); rw [f2.out]; rintro e w43 ⟨rfl, hb⟩; replace R_a := hide (Rd.then_ R_a.out hb); replace R_b := hide (Rd.then_ R_b.out hb); replace R_c := hide (Rd.then_ R_c.out hb); replace R_zero := hide (Rd.then_ R_zero.out hb); replace R_one := hide (Rd.then_ R_one.out hb); replace R_ab := hide (Rd.then_ R_ab.out hb); replace R_mm := hide (Rd.then_ R_mm.out hb); have U56 : Below V10.heap.size V10 w43 := Below.then_ U55 hb; replace B := hide (Below.then_ B.out hb); clear hb; have tok44 : True := trivial; clear _t tok43))
        | (go_at_call 12; (have _t := tok44; (with_reducible refine (isign_any _ _ _ _ _ _ _ R_mm.out (Nat.le_refl _)).mono ?_); rw [f3.out]; rintro e w44 ⟨rfl, hb⟩; replace R_a := hide (Rd.then_ R_a.out hb); replace R_b := hide (Rd.then_ R_b.out hb); replace R_c := hide (Rd.then_ R_c.out hb); replace R_zero := hide (Rd.then_ R_zero.out hb); replace R_one := hide (Rd.then_ R_one.out hb); replace R_ab := hide (Rd.then_ R_ab.out hb); replace R_mm := hide (Rd.then_ R_mm.out hb); have U57 : Below V10.heap.size V10 w44 := Below.then_ U56 hb; replace B := hide (Below.then_ B.out hb); clear hb; have tok45 : True := trivial; clear _t tok44))
        | (go_at_call 12; (have _t := tok45; (with_reducible refine (isign_any _ _ _ _ _ _ _ R_a.out (Nat.le_refl _)).mono ?_); rw [f1.out]; rintro e w45 ⟨rfl, hb⟩; replace R_a := hide (Rd.then_ R_a.out hb); replace R_b := hide (Rd.then_ R_b.out hb); replace R_c := hide (Rd.then_ R_c.out hb); replace R_zero := hide (Rd.then_ R_zero.out hb); replace R_one := hide (Rd.then_ R_one.out hb); replace R_ab := hide (Rd.then_ R_ab.out hb); replace R_mm := hide (Rd.then_ R_mm.out hb); have U58 : Below V10.heap.size V10 w45 := Below.then_ U57 hb; replace B := hide (Below.then_ B.out hb); clear hb; have tok46 : True := trivial; clear _t tok45))
        | (go_at_call 12; (have _t := tok46; (with_reducible refine (isign_any _ _ _ _ _ _ _ R_b.out (Nat.le_refl _)).mono ?_); rw [f2.out]; rintro e w46 ⟨rfl, hb⟩; replace R_a := hide (Rd.then_ R_a.out hb); replace R_b := hide (Rd.then_ R_b.out hb); replace R_c := hide (Rd.then_ R_c.out hb); replace R_zero := hide (Rd.then_ R_zero.out hb); replace R_one := hide (Rd.then_ R_one.out hb); replace R_ab := hide (Rd.then_ R_ab.out hb); replace R_mm := hide (Rd.then_ R_mm.out hb); have U59 : Below V10.heap.size V10 w46 := Below.then_ U58 hb; replace B := hide (Below.then_ B.out hb); clear hb; have tok47 : True := trivial; clear _t tok46))
        | (go_at_call 23; (have _t := tok47; (with_reducible refine (awake_any _).mono ?_); rintro e w47 ⟨rfl, hb⟩; replace R_a := hide (Rd.then_ R_a.out hb); replace R_b := hide (Rd.then_ R_b.out hb); replace R_c := hide (Rd.then_ R_c.out hb); replace R_zero := hide (Rd.then_ R_zero.out hb); replace R_one := hide (Rd.then_ R_one.out hb); replace R_ab := hide (Rd.then_ R_ab.out hb); replace R_mm := hide (Rd.then_ R_mm.out hb); have U60 : Below V10.heap.size V10 w47 := Below.then_ U59 hb; replace B := hide (Below.then_ B.out hb); clear hb; have tok48 : True := trivial; clear _t tok47)))
    clear tok48
    go_wp2
    go_ret
    exact ⟨rfl, B.out⟩
  · have _t : True := trivial
    have pz : (p == 0) = false := by simpa using hp0
    have qz : (q == 0) = false := by simpa using hq0
    have pqz : (p * q == 0) = false := by rw [beq_eq_false_iff_ne]; exact Int.mul_ne_zero hp0 hq0
    have wv' := wv.out
    clear hp0 hq0
    have hd := Below.drw_ w40
    replace R_a := hide (Rd.then_ R_a.out hd)
    replace R_b := hide (Rd.then_ R_b.out hd)
    replace R_c := hide (Rd.then_ R_c.out hd)
    replace R_zero := hide (Rd.then_ R_zero.out hd)
    replace R_one := hide (Rd.then_ R_one.out hd)
    replace R_ab := hide (Rd.then_ R_ab.out hd)
    replace R_mm := hide (Rd.then_ R_mm.out hd)
    have U53 : Below V10.heap.size V10 (w40.drew) := Below.then_ U52 hd
    replace B := hide (Below.then_ B.out hd)
    clear hd
    have tok41 : True := trivial
    go_region_held3 (fun w' => Below V10.heap.size V10 w') (assumption)
      (first
        | (go_at_call 12; (have _t := tok41; (with_reducible refine (isign_any _ _ _ _ _ _ _ R_mm.out (Nat.le_refl _)).mono ?_); rw [f3.out]; rintro e w41 ⟨rfl, hb⟩; replace R_a := hide (Rd.then_ R_a.out hb); replace R_b := hide (Rd.then_ R_b.out hb); replace R_c := hide (Rd.then_ R_c.out hb); replace R_zero := hide (Rd.then_ R_zero.out hb); replace R_one := hide (Rd.then_ R_one.out hb); replace R_ab := hide (Rd.then_ R_ab.out hb); replace R_mm := hide (Rd.then_ R_mm.out hb); have U54 : Below V10.heap.size V10 w41 := Below.then_ U53 hb; replace B := hide (Below.then_ B.out hb); clear hb; have tok42 : True := trivial; clear _t tok41))
        | (go_at_call 12; (have _t := tok42; (with_reducible refine (isign_any _ _ _ _ _ _ _ R_a.out (Nat.le_refl _)).mono ?_); rw [f1.out]; rintro e w42 ⟨rfl, hb⟩; replace R_a := hide (Rd.then_ R_a.out hb); replace R_b := hide (Rd.then_ R_b.out hb); replace R_c := hide (Rd.then_ R_c.out hb); replace R_zero := hide (Rd.then_ R_zero.out hb); replace R_one := hide (Rd.then_ R_one.out hb); replace R_ab := hide (Rd.then_ R_ab.out hb); replace R_mm := hide (Rd.then_ R_mm.out hb); have U55 : Below V10.heap.size V10 w42 := Below.then_ U54 hb; replace B := hide (Below.then_ B.out hb); clear hb; have tok43 : True := trivial; clear _t tok42))
        | (go_at_call 12; (have _t := tok43; (with_reducible refine (isign_any _ _ _ _ _ _ _ R_b.out (Nat.le_refl _)).mono ?_); rw [f2.out]; rintro e w43 ⟨rfl, hb⟩; replace R_a := hide (Rd.then_ R_a.out hb); replace R_b := hide (Rd.then_ R_b.out hb); replace R_c := hide (Rd.then_ R_c.out hb); replace R_zero := hide (Rd.then_ R_zero.out hb); replace R_one := hide (Rd.then_ R_one.out hb); replace R_ab := hide (Rd.then_ R_ab.out hb); replace R_mm := hide (Rd.then_ R_mm.out hb); have U56 : Below V10.heap.size V10 w43 := Below.then_ U55 hb; replace B := hide (Below.then_ B.out hb); clear hb; have tok44 : True := trivial; clear _t tok43))
        | (go_at_call 12; (have _t := tok44; (with_reducible refine (isign_any _ _ _ _ _ _ _ R_mm.out (Nat.le_refl _)).mono ?_); rw [f3.out]; rintro e w44 ⟨rfl, hb⟩; replace R_a := hide (Rd.then_ R_a.out hb); replace R_b := hide (Rd.then_ R_b.out hb); replace R_c := hide (Rd.then_ R_c.out hb); replace R_zero := hide (Rd.then_ R_zero.out hb); replace R_one := hide (Rd.then_ R_one.out hb); replace R_ab := hide (Rd.then_ R_ab.out hb); replace R_mm := hide (Rd.then_ R_mm.out hb); have U57 : Below V10.heap.size V10 w44 := Below.then_ U56 hb; replace B := hide (Below.then_ B.out hb); clear hb; have tok45 : True := trivial; clear _t tok44))
        | (go_at_call 12; (have _t := tok45; (with_reducible refine (isign_any _ _ _ _ _ _ _ R_a.out (Nat.le_refl _)).mono ?_); rw [f1.out]; rintro e w45 ⟨rfl, hb⟩; replace R_a := hide (Rd.then_ R_a.out hb); replace R_b := hide (Rd.then_ R_b.out hb); replace R_c := hide (Rd.then_ R_c.out hb); replace R_zero := hide (Rd.then_ R_zero.out hb); replace R_one := hide (Rd.then_ R_one.out hb); replace R_ab := hide (Rd.then_ R_ab.out hb); replace R_mm := hide (Rd.then_ R_mm.out hb); have U58 : Below V10.heap.size V10 w45 := Below.then_ U57 hb; replace B := hide (Below.then_ B.out hb); clear hb; have tok46 : True := trivial; clear _t tok45))
        | (go_at_call 12; (have _t := tok46; (with_reducible refine (isign_any _ _ _ _ _ _ _ R_b.out (Nat.le_refl _)).mono ?_); rw [f2.out]; rintro e w46 ⟨rfl, hb⟩; replace R_a := hide (Rd.then_ R_a.out hb); replace R_b := hide (Rd.then_ R_b.out hb); replace R_c := hide (Rd.then_ R_c.out hb); replace R_zero := hide (Rd.then_ R_zero.out hb); replace R_one := hide (Rd.then_ R_one.out hb); replace R_ab := hide (Rd.then_ R_ab.out hb); replace R_mm := hide (Rd.then_ R_mm.out hb); have U59 : Below V10.heap.size V10 w46 := Below.then_ U58 hb; replace B := hide (Below.then_ B.out hb); clear hb; have tok47 : True := trivial; clear _t tok46))
        | (go_at_call 23; (have _t := tok47; (with_reducible refine (awake_any _).mono ?_); rintro e w47 ⟨rfl, hb⟩; replace R_a := hide (Rd.then_ R_a.out hb); replace R_b := hide (Rd.then_ R_b.out hb); replace R_c := hide (Rd.then_ R_c.out hb); replace R_zero := hide (Rd.then_ R_zero.out hb); replace R_one := hide (Rd.then_ R_one.out hb); replace R_ab := hide (Rd.then_ R_ab.out hb); replace R_mm := hide (Rd.then_ R_mm.out hb); have U60 : Below V10.heap.size V10 w47 := Below.then_ U59 hb; replace B := hide (Below.then_ B.out hb); clear hb; have tok48 : True := trivial; clear _t tok47)))
    clear tok48
    go_wp2
    go_ret
    exact ⟨rfl, B.out⟩

end Go.Proofs.Ytjbbapibpcgnhaa
