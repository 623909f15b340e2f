/-
  The walk of examboardlaw02.IntegerText.
-/
import Derived.Test.YtjbbapibpcgnhaaIntLaw
namespace Go.Proofs.Ytjbbapibpcgnhaa
open Go.RowKit

set_option maxRecDepth 100000 in
set_option maxHeartbeats 4000000 in
theorem itexts_walk (w : World) (tt : ByteArray) (sa : Bool) (Aa : Option Addr) (na ca : Nat) (xa : List Nat) (b_t : tt.size ≤ 9223372036854775807) (h_a : Rd w w.heap.size Aa na ca xa) (k_a : na ≤ 1048576) :
    Calls Try.prog 5 #[.string tt, .agg #[.bool sa, .slice Aa na ca]] w fun e w' => e = .returned (.bool true) ∧ Below w.heap.size w w' := by
  obtain ⟨K, hK⟩ : ∃ K, K = 1048576 := ⟨_, rfl⟩
  obtain ⟨a, za⟩ : ∃ z : Int, iv sa (val xa) = z := ⟨_, rfl⟩
  have Pa : zmag a < pw K := zlt_of za (by have h1 := val_lt h_a.limbs; have h2 := pw_mono (show xa.length ≤ K by have := h_a.len; omega); omega)
  have L_a : na ≤ K := by omega
  obtain ⟨z, k, hp, hr, _, _⟩ := par_z tt b_t
  obtain ⟨st, e1⟩ : ∃ st, zstr (iv sa (val xa)) = st := ⟨_, rfl⟩
  replace za := hide za
  replace Pa := hide Pa
  replace L_a := hide L_a
  replace hp := hide hp
  replace hr := hide hr
  replace e1 := hide e1
  have hKle : K ≤ 1048576 := by omega
  clear hK
  clear k_a
  obtain ⟨W, hW⟩ : ∃ W, W = (w.alloc (.cells #[.bool sa, .slice Aa na ca] 25)) := ⟨_, rfl⟩
  have b_a : Box W (w.heap.size) (.bool sa) (.slice Aa na ca) := by rw [hW]; exact (Box.new w _ _ rfl)
  have hwW : Below w.heap.size w W := by rw [hW]; exact ((Below.refl _ _).alloc (Nat.le_refl _) _)
  have R_a := hide (Rd.then_ h_a hwW)
  clear h_a
  have B := hide hwW
  clear hwW
  have U0 : Below W.heap.size W W := Below.refl _ _
  have c_a0 := b_a.at0 b_a.lt_size (Nat.le_refl _)
  have c_a1 := b_a.at1 b_a.lt_size (Nat.le_refl _)
  replace b_a := hide b_a
  go_enter Try.func5, Try.ntmps5
  go_wp2_with fail
  rw [← hW]
  clear hW
  refine (hp.out _).mono ?_
  rintro e w1 ⟨A_x, c_x, rfl, R_x, hb⟩
  replace R_a := hide (Rd.then_ R_a.out hb)
  have U1 : Below W.heap.size W w1 := Below.then_ U0 hb
  replace B := hide (Below.then_ B.out hb)
  replace R_x := hide R_x
  clear hb
  have hbx : Below w1.heap.size w1 (w1.alloc (.cells #[.bool (zneg z), .slice A_x (dig (zmag z)).length c_x] 25)) := ((Below.refl _ _).alloc (Nat.le_refl _) _)
  have Ux := Below.then_ U1 hbx
  go_wp2_with fail
  obtain ⟨V1, hV⟩ : ∃ V, V = (w1.alloc (.cells #[.bool (zneg z), .slice A_x (dig (zmag z)).length c_x] 25)) := ⟨_, rfl⟩
  obtain ⟨g_x, hg_x⟩ : ∃ g, g = w1.heap.size := ⟨_, rfl⟩
  rw [← hV]
  rw [← hV] at hbx Ux
  rw [← hg_x]
  have b_x : Box V1 g_x (.bool (zneg z)) (.slice A_x (dig (zmag z)).length c_x) := by rw [hV]; exact (Box.new _ _ _ hg_x)
  clear hV
  clear hg_x
  replace R_a := hide (Rd.then_ R_a.out hbx)
  replace R_x := hide (Rd.then_ R_x.out hbx)
  have U2 : Below W.heap.size W V1 := Below.then_ U1 hbx
  replace B := hide (Below.then_ B.out hbx)
  clear hbx
  replace b_a := hide (Box.keep b_a.out U2)
  clear c_a0 c_a1
  replace b_x := hide b_x
  have U3 : Below V1.heap.size V1 V1 := Below.refl _ _
  have c_a0 := b_a.out.at0 b_a.out.lt_size (Nat.le_refl _)
  have c_a1 := b_a.out.at1 b_a.out.lt_size (Nat.le_refl _)
  have c_x0 := b_x.out.at0 b_x.out.lt_size (Nat.le_refl _)
  have c_x1 := b_x.out.at1 b_x.out.lt_size (Nat.le_refl _)
  refine (hr.out _).mono ?_
  rintro e w2 ⟨A_y, c_y, rfl, R_y, hb⟩
  replace R_a := hide (Rd.then_ R_a.out hb)
  replace R_x := hide (Rd.then_ R_x.out hb)
  have U4 : Below V1.heap.size V1 w2 := Below.then_ U3 hb
  replace B := hide (Below.then_ B.out hb)
  replace R_y := hide R_y
  clear hb
  have hbx : Below w2.heap.size w2 (w2.alloc (.cells #[.bool (zneg z), .slice A_y (dig (zmag z)).length c_y] 25)) := ((Below.refl _ _).alloc (Nat.le_refl _) _)
  have Ux := Below.then_ U4 hbx
  go_wp2_with fail
  obtain ⟨V4, hV⟩ : ∃ V, V = (w2.alloc (.cells #[.bool (zneg z), .slice A_y (dig (zmag z)).length c_y] 25)) := ⟨_, rfl⟩
  obtain ⟨g_y, hg_y⟩ : ∃ g, g = w2.heap.size := ⟨_, rfl⟩
  rw [← hV]
  rw [← hV] at hbx Ux
  rw [← hg_y]
  have b_y : Box V4 g_y (.bool (zneg z)) (.slice A_y (dig (zmag z)).length c_y) := by rw [hV]; exact (Box.new _ _ _ hg_y)
  clear hV
  clear hg_y
  replace R_a := hide (Rd.then_ R_a.out hbx)
  replace R_x := hide (Rd.then_ R_x.out hbx)
  replace R_y := hide (Rd.then_ R_y.out hbx)
  have U5 : Below V1.heap.size V1 V4 := Below.then_ U4 hbx
  replace B := hide (Below.then_ B.out hbx)
  clear hbx
  replace b_a := hide (Box.keep b_a.out U5)
  clear c_a0 c_a1
  replace b_x := hide (Box.keep b_x.out U5)
  clear c_x0 c_x1
  replace b_y := hide b_y
  have U6 : Below V4.heap.size V4 V4 := Below.refl _ _
  have c_a0 := b_a.out.at0 b_a.out.lt_size (Nat.le_refl _)
  have c_a1 := b_a.out.at1 b_a.out.lt_size (Nat.le_refl _)
  have c_x0 := b_x.out.at0 b_x.out.lt_size (Nat.le_refl _)
  have c_x1 := b_x.out.at1 b_x.out.lt_size (Nat.le_refl _)
  have c_y0 := b_y.out.at0 b_y.out.lt_size (Nat.le_refl _)
  have c_y1 := b_y.out.at1 b_y.out.lt_size (Nat.le_refl _)
  have hd := Below.drw_ V4
  replace R_a := hide (Rd.then_ R_a.out hd)
  replace R_x := hide (Rd.then_ R_x.out hd)
  replace R_y := hide (Rd.then_ R_y.out hd)
  have U7 : Below V4.heap.size V4 (V4.drew) := Below.then_ U6 hd
  replace B := hide (Below.then_ B.out hd)
  clear hd
  have tok1 : True := trivial
  go_region_held3 (fun w' => Below V4.heap.size V4 w') (assumption)
    (first
      | (go_at_call 14; (have _t := tok1; (with_reducible refine (same_eq _ _ _ _ _ _ _ _ _ _ _ R_x.out R_y.out rfl rfl).mono ?_); rintro e w3 ⟨rfl, hb⟩; replace R_a := hide (Rd.then_ R_a.out hb); replace R_x := hide (Rd.then_ R_x.out hb); replace R_y := hide (Rd.then_ R_y.out hb); have U8 : Below V4.heap.size V4 w3 := Below.then_ U7 hb; replace B := hide (Below.then_ B.out hb); clear hb; have tok2 : True := trivial; clear _t tok1))
      | (go_at_call 36; (have _t := tok2; (with_reducible refine (iprint_any _ _ _ _ _ _ _ R_a.out (Nat.le_refl _) (by have := L_a.out; omega)).mono ?_); rw [e1.out]; rintro e w4 ⟨rfl, hb⟩; replace R_a := hide (Rd.then_ R_a.out hb); replace R_x := hide (Rd.then_ R_x.out hb); replace R_y := hide (Rd.then_ R_y.out hb); have U9 : Below V4.heap.size V4 w4 := Below.then_ U8 hb; replace B := hide (Below.then_ B.out hb); clear hb; have tok3 : True := trivial; clear _t tok2))
      | (go_at_call 37; (have _t := tok3; (with_reducible refine (riprint_any _ _ _ _ _ _ _ R_a.out (Nat.le_refl _) (by have := L_a.out; omega)).mono ?_); rw [e1.out]; rintro e w5 ⟨rfl, hb⟩; replace R_a := hide (Rd.then_ R_a.out hb); replace R_x := hide (Rd.then_ R_x.out hb); replace R_y := hide (Rd.then_ R_y.out hb); have U10 : Below V4.heap.size V4 w5 := Below.then_ U9 hb; replace B := hide (Below.then_ B.out hb); clear hb; have tok4 : True := trivial; clear _t tok3))
      | (go_at_call 23; (have _t := tok4; (with_reducible refine (awake_any _).mono ?_); rintro e w6 ⟨rfl, hb⟩; replace R_a := hide (Rd.then_ R_a.out hb); replace R_x := hide (Rd.then_ R_x.out hb); replace R_y := hide (Rd.then_ R_y.out hb); have U11 : Below V4.heap.size V4 w6 := Below.then_ U10 hb; replace B := hide (Below.then_ B.out hb); clear hb; have tok5 : True := trivial; clear _t tok4)))
  clear tok5
  go_wp2
  go_ret
  exact ⟨rfl, B.out⟩

end Go.Proofs.Ytjbbapibpcgnhaa
