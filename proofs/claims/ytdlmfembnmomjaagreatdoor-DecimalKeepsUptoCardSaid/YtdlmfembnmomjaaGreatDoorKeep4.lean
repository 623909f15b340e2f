/-
  DecimalKeeps.
-/
import Derived.Test.YtdlmfembnmomjaaGreatDoorLaw4
import Derived.Test.YtdlmfembnmomjaaGreatDoorSame4
namespace Go.Proofs.YtdlmfembnmomjaaGreatDoor
open Go.RowKit


theorem mk_div_cast (z : Int) (T : Nat) : mkRat z T = (z : Rat) * (T : Rat)⁻¹ := by rw [Rat.mkRat_eq_div, Rat.div_def]
theorem scale_back (z : Int) {T : Nat} (hT : T ≠ 0) : mkRat z T * (T : Rat) = (z : Rat) := by
  have h0 : (0 : Rat) < (T : Rat) := Rat.natCast_pos.2 (by omega)
  rw [mk_div_cast, Rat.mul_assoc, Rat.inv_mul_cancel _ (by grind), Rat.mul_one]
theorem ten_nz (n : Nat) : 10 ^ n ≠ 0 := Nat.ne_of_gt (Nat.pow_pos (by omega))
/-- more places keep the value -/
theorem keep_val {u : Int} {o p : Nat} (h : o ≤ p) {v : Rat} (hv : mkRat u (10 ^ o) = v) {x : Rat} (hx : v * ((10 ^ p : Nat) : Rat) = x) {m z : Int} (hz : rnd m x = z) : mkRat z (10 ^ p) = v := by
  have e : v = mkRat (u * ((10 ^ (p - o) : Nat) : Int)) (10 ^ p) := by
    rw [← hv, Rat.mkRat_eq_iff (ten_nz o) (ten_nz p), Int.mul_assoc, ← Int.natCast_mul, ← Nat.pow_add, Nat.sub_add_cancel h]
  rw [e, scale_back _ (ten_nz p)] at hx
  rw [← hx, rnd_int] at hz
  rw [← hz, ← e]
theorem rnd_back {z : Int} {p : Nat} {y : Rat} (hy : mkRat z (10 ^ p) = y) (k : Int) : rnd k (y * ((10 ^ p : Nat) : Rat)) = z := by
  rw [← hy, scale_back _ (ten_nz p), rnd_int]

set_option maxHeartbeats 4000000 in
theorem keep_bad {w : World} {Bd : Nat} {A_d : Option Addr} {n_d c_d : Nat} {x_d : List Nat} {s_d : Bool} {p_d : Int} {A_a : Option Addr} {n_a c_a : Nat} {x_a : List Nat} {s_a : Bool} {A_ad : Option Addr} {n_ad c_ad : Nat} {x_ad : List Nat} {p m : Int} (h_d : Rd w Bd A_d n_d c_d x_d) (_g_d : n_d ≤ 10000000) (h_a : Rd w Bd A_a n_a c_a x_a) (_g_a : n_a ≤ 10000000) (h_ad : Rd w Bd A_ad n_ad c_ad x_ad) (_g_ad : n_ad ≤ 10000000) (hB : Bd ≤ w.heap.size) (h : ¬ okd p m) :
    Calls Tryz.prog 6 #[.agg #[.bool s_d, .slice A_d n_d c_d, .int .i64 p_d], .agg #[.bool s_a, .slice A_a n_a c_a, .slice A_ad n_ad c_ad], .int .i64 p, .int .i64 m] w (RetB w (.bool true)) := by
  replace h := hide h
  obtain ⟨W, hW⟩ : ∃ W, W = ((w.alloc (.cells #[.bool s_d, .slice A_d n_d c_d, .int .i64 p_d] 29)).alloc (.cells #[.bool s_a, .slice A_a n_a c_a, .slice A_ad n_ad c_ad] 27)) := ⟨_, rfl⟩
  have b_d : BoxD W (w.heap.size) (.bool s_d) (.slice A_d n_d c_d) (.int .i64 p_d) := by rw [hW]; exact ((BoxD.new w _ _ _ rfl).al _)
  have b_a : Box3 W (w.heap.size + 1) (.bool s_a) (.slice A_a n_a c_a) (.slice A_ad n_ad c_ad) := by rw [hW]; exact (Box3.new _ _ _ _ (by simp))
  have hwW : Below w.heap.size w W := by rw [hW]; exact (((Below.refl _ _).alloc (Nat.le_refl _) _).alloc (by simp) _)
  have R_d := hide (Rd.upto h_d hwW hB)
  clear h_d
  have R_a := hide (Rd.upto h_a hwW hB)
  clear h_a
  have R_ad := hide (Rd.upto h_ad hwW hB)
  clear h_ad
  have B := hide hwW
  clear hwW
  clear hB
  have U0 : Below W.heap.size W W := Below.refl _ _
  have c_d0 := b_d.at0 b_d.lt_size (Nat.le_refl _)
  have c_d1 := b_d.at1 b_d.lt_size (Nat.le_refl _)
  have c_d2 := b_d.at2 b_d.lt_size (Nat.le_refl _)
  replace b_d := hide b_d
  have c_a0 := b_a.at0 b_a.lt_size (Nat.le_refl _)
  have c_a1 := b_a.at1 b_a.lt_size (Nat.le_refl _)
  have c_a2 := b_a.at2 b_a.lt_size (Nat.le_refl _)
  replace b_a := hide b_a
  go_enter Tryz.func6, Tryz.ntmps6
  go_wp2_with fail
  rw [← hW]
  clear hW
  refine (valid_no h.out).mono ?_
  rintro e w1 ⟨rfl, hb⟩
  replace R_d := hide (Rd.then_ R_d.out hb)
  replace R_a := hide (Rd.then_ R_a.out hb)
  replace R_ad := hide (Rd.then_ R_ad.out hb)
  have U1 : Below W.heap.size W w1 := Below.then_ U0 hb
  replace B := hide (Below.then_ B.out hb)
  clear hb
  go_wp2_with fail
  refine (awake_any).mono ?_
  rintro e w2 ⟨rfl, hb⟩
  replace R_d := hide (Rd.then_ R_d.out hb)
  replace R_a := hide (Rd.then_ R_a.out hb)
  replace R_ad := hide (Rd.then_ R_ad.out hb)
  have U2 : Below W.heap.size W w2 := Below.then_ U1 hb
  replace B := hide (Below.then_ B.out hb)
  clear hb
  go_wp2
  go_ret
  exact ⟨rfl, B.out⟩

set_option maxHeartbeats 4000000 in
theorem keep_err {w : World} {Bd : Nat} {A_d : Option Addr} {n_d c_d : Nat} {x_d : List Nat} {s_d : Bool} {p_d : Int} {A_a : Option Addr} {n_a c_a : Nat} {x_a : List Nat} {s_a : Bool} {A_ad : Option Addr} {n_ad c_ad : Nat} {x_ad : List Nat} {p : Nat} {m : Int} (h_d : Rd w Bd A_d n_d c_d x_d) (g_d : n_d ≤ 10000000) (h_a : Rd w Bd A_a n_a c_a x_a) (g_a : n_a ≤ 10000000) (h_ad : Rd w Bd A_ad n_ad c_ad x_ad) (g_ad : n_ad ≤ 10000000) (hB : Bd ≤ w.heap.size) (h9 : p ≤ 9) (h1 : 1 ≤ m) (h7 : m ≤ 7) (hp : ¬ (0 ≤ p_d ∧ p_d ≤ 9)) :
    Calls Tryz.prog 6 #[.agg #[.bool s_d, .slice A_d n_d c_d, .int .i64 p_d], .agg #[.bool s_a, .slice A_a n_a c_a, .slice A_ad n_ad c_ad], .int .i64 (p : Int), .int .i64 m] w (RetB w (.bool true)) := by
  have s_q := sz_rd (q := qv s_a (val x_a) (val x_ad)) h_a h_ad rfl g_a g_ad
  obtain ⟨x, e_x⟩ : ∃ new, qv s_a (val x_a) (val x_ad) * ((10 ^ p : Nat) : Rat) = new := ⟨_, rfl⟩
  replace e_x := hide e_x
  have lT : 10 ^ p < pw 1 := Nat.lt_of_le_of_lt (Nat.pow_le_pow_right (by omega) h9) (by decide)
  have s_x : (dig (zmag x.num)).length ≤ 10000001 + 1 ∧ (dig x.den).length ≤ 10000001 + 1 := sz_mul e_x.out s_q (sz_int (z := ((10 ^ p : Nat) : Int)) lT (by omega))
  obtain ⟨z, e_z⟩ : ∃ new, rnd m x = new := ⟨_, rfl⟩
  replace e_z := hide e_z
  have l_z := rnd_len e_z.out s_x
  have bz : (dig (zmag z)).length ≤ 100000000 := by have := zl l_z; omega
  replace bz := hide bz
  obtain ⟨y, e_y0⟩ : ∃ new, mkRat z (10 ^ p) = new := ⟨_, rfl⟩
  replace e_y0 := hide e_y0
  have e_r : ∀ k, rnd k (y * ((10 ^ p : Nat) : Rat)) = z := rnd_back e_y0.out
  replace e_r := hide e_r
  have e_y : mkRat (iv (zneg z) (val (dig (zmag z)))) (10 ^ p) = y := by rw [ivz]; exact e_y0.out
  replace e_y := hide e_y
  have ga : n_a ≤ 1000000000 ∧ n_ad ≤ 1000000000 := by omega
  replace ga := hide ga
  have f0 : (0 : Int) ≤ (p : Int) := by omega
  replace f0 := hide f0
  have f9 : (p : Int) ≤ 9 := by omega
  replace f9 := hide f9
  replace hp := hide hp
  have gd : n_d ≤ 10000000000 := by omega
  replace gd := hide gd
  clear s_q s_x l_z lT
  replace h9 := hide h9
  replace h1 := hide h1
  replace h7 := hide h7
  obtain ⟨W, hW⟩ : ∃ W, W = ((w.alloc (.cells #[.bool s_d, .slice A_d n_d c_d, .int .i64 p_d] 29)).alloc (.cells #[.bool s_a, .slice A_a n_a c_a, .slice A_ad n_ad c_ad] 27)) := ⟨_, rfl⟩
  have b_d : BoxD W (w.heap.size) (.bool s_d) (.slice A_d n_d c_d) (.int .i64 p_d) := by rw [hW]; exact ((BoxD.new w _ _ _ rfl).al _)
  have b_a : Box3 W (w.heap.size + 1) (.bool s_a) (.slice A_a n_a c_a) (.slice A_ad n_ad c_ad) := by rw [hW]; exact (Box3.new _ _ _ _ (by simp))
  have hwW : Below w.heap.size w W := by rw [hW]; exact (((Below.refl _ _).alloc (Nat.le_refl _) _).alloc (by simp) _)
  have R_d := hide (Rd.upto h_d hwW hB)
  clear h_d
  have R_a := hide (Rd.upto h_a hwW hB)
  clear h_a
  have R_ad := hide (Rd.upto h_ad hwW hB)
  clear h_ad
  have B := hide hwW
  clear hwW
  clear hB
  have U0 : Below W.heap.size W W := Below.refl _ _
  have c_d0 := b_d.at0 b_d.lt_size (Nat.le_refl _)
  have c_d1 := b_d.at1 b_d.lt_size (Nat.le_refl _)
  have c_d2 := b_d.at2 b_d.lt_size (Nat.le_refl _)
  replace b_d := hide b_d
  have c_a0 := b_a.at0 b_a.lt_size (Nat.le_refl _)
  have c_a1 := b_a.at1 b_a.lt_size (Nat.le_refl _)
  have c_a2 := b_a.at2 b_a.lt_size (Nat.le_refl _)
  replace b_a := hide b_a
  go_enter Tryz.func6, Tryz.ntmps6
  go_wp2_with fail
  rw [← hW]
  clear hW
  refine (valid_yes f0.out f9.out h1.out h7.out).mono ?_
  rintro e w1 ⟨rfl, hb⟩
  replace R_d := hide (Rd.then_ R_d.out hb)
  replace R_a := hide (Rd.then_ R_a.out hb)
  replace R_ad := hide (Rd.then_ R_ad.out hb)
  have U1 : Below W.heap.size W w1 := Below.then_ U0 hb
  replace B := hide (Below.then_ B.out hb)
  clear hb
  go_wp2_with fail
  refine (pvalue_bad R_d.out gd.out (Nat.le_refl _) hp.out).mono ?_
  rintro e w2 ⟨rfl, hb⟩
  replace R_d := hide (Rd.then_ R_d.out hb)
  replace R_a := hide (Rd.then_ R_a.out hb)
  replace R_ad := hide (Rd.then_ R_ad.out hb)
  have U2 : Below W.heap.size W w2 := Below.then_ U1 hb
  replace B := hide (Below.then_ B.out hb)
  clear hb
  have hbx : Below w2.heap.size w2 (w2.alloc (.cells #[.bool false, .slice none 0 0, .slice none 0 0] 27)) := ((Below.refl _ _).alloc (Nat.le_refl _) _)
  have Ux := Below.then_ U2 hbx
  go_wp2_with fail
  obtain ⟨V2, hV⟩ : ∃ V, V = (w2.alloc (.cells #[.bool false, .slice none 0 0, .slice none 0 0] 27)) := ⟨_, rfl⟩
  obtain ⟨g_v, hg_v⟩ : ∃ g, g = w2.heap.size := ⟨_, rfl⟩
  rw [← hV]
  rw [← hV] at hbx Ux
  rw [← hg_v]
  have b_v : Box3 V2 g_v (.bool false) (.slice none 0 0) (.slice none 0 0) := by rw [hV]; exact (Box3.new _ _ _ _ hg_v)
  clear hV
  have ne_d_v : w.heap.size ≠ g_v := by have := (b_d.out.lt b_d.out.lt_size (Nat.le_refl _)) _ U2; omega
  replace ne_d_v := hide ne_d_v
  have ne_a_v : w.heap.size + 1 ≠ g_v := by have := (b_a.out.lt b_a.out.lt_size (Nat.le_refl _)) _ U2; omega
  replace ne_a_v := hide ne_a_v
  have ge_v : w.heap.size ≤ g_v := by have := B.out.size; omega
  replace ge_v := hide ge_v
  clear hg_v
  replace R_d := hide (Rd.then_ R_d.out hbx)
  replace R_a := hide (Rd.then_ R_a.out hbx)
  replace R_ad := hide (Rd.then_ R_ad.out hbx)
  have U3 : Below W.heap.size W V2 := Below.then_ U2 hbx
  replace B := hide (Below.then_ B.out hbx)
  clear hbx
  replace b_d := hide (BoxD.keep b_d.out U3)
  clear c_d0 c_d1 c_d2
  replace b_a := hide (Box3.keep b_a.out U3)
  clear c_a0 c_a1 c_a2
  replace b_v := hide b_v
  have U4 : Below V2.heap.size V2 V2 := Below.refl _ _
  have c_d0 := b_d.out.at0 b_d.out.lt_size (Nat.le_refl _)
  have c_d1 := b_d.out.at1 b_d.out.lt_size (Nat.le_refl _)
  have c_d2 := b_d.out.at2 b_d.out.lt_size (Nat.le_refl _)
  have c_a0 := b_a.out.at0 b_a.out.lt_size (Nat.le_refl _)
  have c_a1 := b_a.out.at1 b_a.out.lt_size (Nat.le_refl _)
  have c_a2 := b_a.out.at2 b_a.out.lt_size (Nat.le_refl _)
  have c_v0 := b_v.out.at0 b_v.out.lt_size (Nat.le_refl _)
  have c_v1 := b_v.out.at1 b_v.out.lt_size (Nat.le_refl _)
  have c_v2 := b_v.out.at2 b_v.out.lt_size (Nat.le_refl _)
  refine (pround_any R_a.out ga.out.1 R_ad.out ga.out.2 (Nat.le_refl _) h9.out h1.out h7.out e_x.out e_z.out).mono ?_
  rintro e w3 ⟨A_x, c_x, rfl, R_x, hb⟩
  replace R_d := hide (Rd.then_ R_d.out hb)
  replace R_a := hide (Rd.then_ R_a.out hb)
  replace R_ad := hide (Rd.then_ R_ad.out hb)
  have U5 : Below V2.heap.size V2 w3 := Below.then_ U4 hb
  replace B := hide (Below.then_ B.out hb)
  replace R_x := hide R_x
  clear hb
  have hbx : Below w3.heap.size w3 (w3.alloc (.cells #[.bool (zneg z), .slice A_x (dig (zmag z)).length c_x, .int .i64 (p : Int)] 29)) := ((Below.refl _ _).alloc (Nat.le_refl _) _)
  have Ux := Below.then_ U5 hbx
  go_wp2_with fail
  obtain ⟨V5, hV⟩ : ∃ V, V = (w3.alloc (.cells #[.bool (zneg z), .slice A_x (dig (zmag z)).length c_x, .int .i64 (p : Int)] 29)) := ⟨_, rfl⟩
  obtain ⟨g_x, hg_x⟩ : ∃ g, g = w3.heap.size := ⟨_, rfl⟩
  rw [← hV]
  rw [← hV] at hbx Ux
  rw [← hg_x]
  have b_x : BoxD V5 g_x (.bool (zneg z)) (.slice A_x (dig (zmag z)).length c_x) (.int .i64 (p : Int)) := by rw [hV]; exact (BoxD.new _ _ _ _ hg_x)
  clear hV
  have ne_d_x : w.heap.size ≠ g_x := by have := (b_d.out.lt b_d.out.lt_size (Nat.le_refl _)) _ U5; omega
  replace ne_d_x := hide ne_d_x
  have ne_a_x : w.heap.size + 1 ≠ g_x := by have := (b_a.out.lt b_a.out.lt_size (Nat.le_refl _)) _ U5; omega
  replace ne_a_x := hide ne_a_x
  have ne_v_x : g_v ≠ g_x := by have := (b_v.out.lt b_v.out.lt_size (Nat.le_refl _)) _ U5; omega
  replace ne_v_x := hide ne_v_x
  have ge_x : w.heap.size ≤ g_x := by have := B.out.size; omega
  replace ge_x := hide ge_x
  clear hg_x
  replace R_d := hide (Rd.then_ R_d.out hbx)
  replace R_a := hide (Rd.then_ R_a.out hbx)
  replace R_ad := hide (Rd.then_ R_ad.out hbx)
  replace R_x := hide (Rd.then_ R_x.out hbx)
  have U6 : Below V2.heap.size V2 V5 := Below.then_ U5 hbx
  replace B := hide (Below.then_ B.out hbx)
  clear hbx
  replace b_d := hide (BoxD.keep b_d.out U6)
  clear c_d0 c_d1 c_d2
  replace b_a := hide (Box3.keep b_a.out U6)
  clear c_a0 c_a1 c_a2
  replace b_v := hide (Box3.keep b_v.out U6)
  clear c_v0 c_v1 c_v2
  replace b_x := hide b_x
  have U7 : Below V5.heap.size V5 V5 := Below.refl _ _
  have c_d0 := b_d.out.at0 b_d.out.lt_size (Nat.le_refl _)
  have c_d1 := b_d.out.at1 b_d.out.lt_size (Nat.le_refl _)
  have c_d2 := b_d.out.at2 b_d.out.lt_size (Nat.le_refl _)
  have c_a0 := b_a.out.at0 b_a.out.lt_size (Nat.le_refl _)
  have c_a1 := b_a.out.at1 b_a.out.lt_size (Nat.le_refl _)
  have c_a2 := b_a.out.at2 b_a.out.lt_size (Nat.le_refl _)
  have c_v0 := b_v.out.at0 b_v.out.lt_size (Nat.le_refl _)
  have c_v1 := b_v.out.at1 b_v.out.lt_size (Nat.le_refl _)
  have c_v2 := b_v.out.at2 b_v.out.lt_size (Nat.le_refl _)
  have c_x0 := b_x.out.at0 b_x.out.lt_size (Nat.le_refl _)
  have c_x1 := b_x.out.at1 b_x.out.lt_size (Nat.le_refl _)
  have c_x2 := b_x.out.at2 b_x.out.lt_size (Nat.le_refl _)
  go_loopw [16] (fun i wr => ∃ k : Nat, 1 ≤ k ∧ k ≤ 8 ∧ i = .int .i64 (k : Int) ∧ Below V5.heap.size V5 wr) (fun i _ => 8 - (intOf i).toNat)
  case atStart => exact ⟨1, by omega, by omega, rfl, Below.refl _ _⟩
  case round =>
    obtain ⟨k, hk1, hk8, rfl, hbk⟩ := hrel
    replace R_d := hide (Rd.then_ R_d.out hbk)
    replace R_a := hide (Rd.then_ R_a.out hbk)
    replace R_ad := hide (Rd.then_ R_ad.out hbk)
    replace R_x := hide (Rd.then_ R_x.out hbk)
    have U8 : Below V5.heap.size V5 wr := Below.then_ U7 hbk
    replace B := hide (Below.then_ B.out hbk)
    have L := hide hbk
    clear hbk
    by_cases hk : k ≤ 7
    · have e7 : decide ((k : Int) ≤ 7) = true := decide_eq_true (by omega)
      have l1 : (1 : Int) ≤ (k : Int) := by omega
      replace l1 := hide l1
      have l7 : (k : Int) ≤ 7 := by omega
      replace l7 := hide l7
      go_wp2_with fail
      refine (prescale_any R_x.out bz.out (Nat.le_refl _) rfl h9.out h9.out l1.out l7.out e_y.out rfl (e_r.out _)).mono ?_
      rintro e w4 ⟨A_y, c_y, rfl, R_y, hb⟩
      replace R_d := hide (Rd.then_ R_d.out hb)
      replace R_a := hide (Rd.then_ R_a.out hb)
      replace R_ad := hide (Rd.then_ R_ad.out hb)
      replace R_x := hide (Rd.then_ R_x.out hb)
      have U9 : Below V5.heap.size V5 w4 := Below.then_ U8 hb
      replace B := hide (Below.then_ B.out hb)
      replace L := hide (Below.then_ L.out hb)
      replace R_y := hide R_y
      clear hb
      have hbx : Below w4.heap.size w4 (w4.alloc (.cells #[.bool (zneg z), .slice A_y (dig (zmag z)).length c_y, .int .i64 (p : Int)] 29)) := ((Below.refl _ _).alloc (Nat.le_refl _) _)
      have Ux := Below.then_ U9 hbx
      go_wp2_with fail
      obtain ⟨V9, hV⟩ : ∃ V, V = (w4.alloc (.cells #[.bool (zneg z), .slice A_y (dig (zmag z)).length c_y, .int .i64 (p : Int)] 29)) := ⟨_, rfl⟩
      obtain ⟨g_y, hg_y⟩ : ∃ g, g = w4.heap.size := ⟨_, rfl⟩
      rw [← hV]
      rw [← hV] at hbx Ux
      rw [← hg_y]
      have b_y : BoxD V9 g_y (.bool (zneg z)) (.slice A_y (dig (zmag z)).length c_y) (.int .i64 (p : Int)) := by rw [hV]; exact (BoxD.new _ _ _ _ hg_y)
      clear hV
      have ne_d_y : w.heap.size ≠ g_y := by have := (b_d.out.lt b_d.out.lt_size (Nat.le_refl _)) _ U9; omega
      replace ne_d_y := hide ne_d_y
      have ne_a_y : w.heap.size + 1 ≠ g_y := by have := (b_a.out.lt b_a.out.lt_size (Nat.le_refl _)) _ U9; omega
      replace ne_a_y := hide ne_a_y
      have ne_v_y : g_v ≠ g_y := by have := (b_v.out.lt b_v.out.lt_size (Nat.le_refl _)) _ U9; omega
      replace ne_v_y := hide ne_v_y
      have ne_x_y : g_x ≠ g_y := by have := (b_x.out.lt b_x.out.lt_size (Nat.le_refl _)) _ U9; omega
      replace ne_x_y := hide ne_x_y
      have ge_y : w.heap.size ≤ g_y := by have := B.out.size; omega
      replace ge_y := hide ge_y
      clear hg_y
      replace R_d := hide (Rd.then_ R_d.out hbx)
      replace R_a := hide (Rd.then_ R_a.out hbx)
      replace R_ad := hide (Rd.then_ R_ad.out hbx)
      replace R_x := hide (Rd.then_ R_x.out hbx)
      replace R_y := hide (Rd.then_ R_y.out hbx)
      have U10 : Below V5.heap.size V5 V9 := Below.then_ U9 hbx
      replace B := hide (Below.then_ B.out hbx)
      replace L := hide (Below.then_ L.out hbx)
      clear hbx
      replace b_d := hide (BoxD.keep b_d.out U10)
      clear c_d0 c_d1 c_d2
      replace b_a := hide (Box3.keep b_a.out U10)
      clear c_a0 c_a1 c_a2
      replace b_v := hide (Box3.keep b_v.out U10)
      clear c_v0 c_v1 c_v2
      replace b_x := hide (BoxD.keep b_x.out U10)
      clear c_x0 c_x1 c_x2
      replace b_y := hide b_y
      have U11 : Below V9.heap.size V9 V9 := Below.refl _ _
      have c_d0 := b_d.out.at0 b_d.out.lt_size (Nat.le_refl _)
      have c_d1 := b_d.out.at1 b_d.out.lt_size (Nat.le_refl _)
      have c_d2 := b_d.out.at2 b_d.out.lt_size (Nat.le_refl _)
      have c_a0 := b_a.out.at0 b_a.out.lt_size (Nat.le_refl _)
      have c_a1 := b_a.out.at1 b_a.out.lt_size (Nat.le_refl _)
      have c_a2 := b_a.out.at2 b_a.out.lt_size (Nat.le_refl _)
      have c_v0 := b_v.out.at0 b_v.out.lt_size (Nat.le_refl _)
      have c_v1 := b_v.out.at1 b_v.out.lt_size (Nat.le_refl _)
      have c_v2 := b_v.out.at2 b_v.out.lt_size (Nat.le_refl _)
      have c_x0 := b_x.out.at0 b_x.out.lt_size (Nat.le_refl _)
      have c_x1 := b_x.out.at1 b_x.out.lt_size (Nat.le_refl _)
      have c_x2 := b_x.out.at2 b_x.out.lt_size (Nat.le_refl _)
      have c_y0 := b_y.out.at0 b_y.out.lt_size (Nat.le_refl _)
      have c_y1 := b_y.out.at1 b_y.out.lt_size (Nat.le_refl _)
      have c_y2 := b_y.out.at2 b_y.out.lt_size (Nat.le_refl _)
      refine (samedec_any R_x.out R_y.out (Nat.le_refl _)).mono ?_
      rintro e w5 ⟨rfl, hb⟩
      replace R_d := hide (Rd.then_ R_d.out hb)
      replace R_a := hide (Rd.then_ R_a.out hb)
      replace R_ad := hide (Rd.then_ R_ad.out hb)
      replace R_x := hide (Rd.then_ R_x.out hb)
      replace R_y := hide (Rd.then_ R_y.out hb)
      have U12 : Below V9.heap.size V9 w5 := Below.then_ U11 hb
      replace B := hide (Below.then_ B.out hb)
      replace L := hide (Below.then_ L.out hb)
      clear hb
      go_wp2
      go_round
      case rel => exact ⟨k + 1, by omega, by omega, by go_num, L.out⟩
      case measure => simp [intOf]; omega
    · have e7 : decide ((k : Int) ≤ 7) = false := decide_eq_false (by omega)
      go_wp2_with fail
      refine (awake_any).mono ?_
      rintro e w24 ⟨rfl, hb⟩
      replace R_d := hide (Rd.then_ R_d.out hb)
      replace R_a := hide (Rd.then_ R_a.out hb)
      replace R_ad := hide (Rd.then_ R_ad.out hb)
      replace R_x := hide (Rd.then_ R_x.out hb)
      have U49 : Below V5.heap.size V5 w24 := Below.then_ U8 hb
      replace B := hide (Below.then_ B.out hb)
      clear hb
      go_wp2
      go_ret
      exact ⟨rfl, B.out⟩

set_option maxHeartbeats 4000000 in
theorem keep_less {w : World} {Bd : Nat} {A_d : Option Addr} {n_d c_d : Nat} {x_d : List Nat} {s_d : Bool} {p_d : Int} {A_a : Option Addr} {n_a c_a : Nat} {x_a : List Nat} {s_a : Bool} {A_ad : Option Addr} {n_ad c_ad : Nat} {x_ad : List Nat} {p : Nat} {m : Int} (h_d : Rd w Bd A_d n_d c_d x_d) (g_d : n_d ≤ 10000000) (h_a : Rd w Bd A_a n_a c_a x_a) (g_a : n_a ≤ 10000000) (h_ad : Rd w Bd A_ad n_ad c_ad x_ad) (g_ad : n_ad ≤ 10000000) (hB : Bd ≤ w.heap.size) (h9 : p ≤ 9) (h1 : 1 ≤ m) (h7 : m ≤ 7) {o : Nat} (hp : p_d = (o : Int)) (ho : o ≤ 9) (hop : p < o) :
    Calls Tryz.prog 6 #[.agg #[.bool s_d, .slice A_d n_d c_d, .int .i64 p_d], .agg #[.bool s_a, .slice A_a n_a c_a, .slice A_ad n_ad c_ad], .int .i64 (p : Int), .int .i64 m] w (RetB w (.bool true)) := by
  have s_q := sz_rd (q := qv s_a (val x_a) (val x_ad)) h_a h_ad rfl g_a g_ad
  obtain ⟨x, e_x⟩ : ∃ new, qv s_a (val x_a) (val x_ad) * ((10 ^ p : Nat) : Rat) = new := ⟨_, rfl⟩
  replace e_x := hide e_x
  have lT : 10 ^ p < pw 1 := Nat.lt_of_le_of_lt (Nat.pow_le_pow_right (by omega) h9) (by decide)
  have s_x : (dig (zmag x.num)).length ≤ 10000001 + 1 ∧ (dig x.den).length ≤ 10000001 + 1 := sz_mul e_x.out s_q (sz_int (z := ((10 ^ p : Nat) : Int)) lT (by omega))
  obtain ⟨z, e_z⟩ : ∃ new, rnd m x = new := ⟨_, rfl⟩
  replace e_z := hide e_z
  have l_z := rnd_len e_z.out s_x
  have bz : (dig (zmag z)).length ≤ 100000000 := by have := zl l_z; omega
  replace bz := hide bz
  obtain ⟨y, e_y0⟩ : ∃ new, mkRat z (10 ^ p) = new := ⟨_, rfl⟩
  replace e_y0 := hide e_y0
  have e_r : ∀ k, rnd k (y * ((10 ^ p : Nat) : Rat)) = z := rnd_back e_y0.out
  replace e_r := hide e_r
  have e_y : mkRat (iv (zneg z) (val (dig (zmag z)))) (10 ^ p) = y := by rw [ivz]; exact e_y0.out
  replace e_y := hide e_y
  have ga : n_a ≤ 1000000000 ∧ n_ad ≤ 1000000000 := by omega
  replace ga := hide ga
  have f0 : (0 : Int) ≤ (p : Int) := by omega
  replace f0 := hide f0
  have f9 : (p : Int) ≤ 9 := by omega
  replace f9 := hide f9
  subst hp
  obtain ⟨q, e_q⟩ : ∃ new, mkRat (iv s_d (val x_d)) (10 ^ o) = new := ⟨_, rfl⟩
  replace e_q := hide e_q
  have lo : 10 ^ o < pw 1 := Nat.lt_of_le_of_lt (Nat.pow_le_pow_right (by omega) ho) (by decide)
  have hc : decide (o ≤ p) = false := decide_eq_false (by omega)
  clear hop lo
  replace ho := hide ho
  have gd : n_d ≤ 10000000000 := by omega
  replace gd := hide gd
  clear s_q s_x l_z lT
  replace h9 := hide h9
  replace h1 := hide h1
  replace h7 := hide h7
  obtain ⟨W, hW⟩ : ∃ W, W = ((w.alloc (.cells #[.bool s_d, .slice A_d n_d c_d, .int .i64 (o : Int)] 29)).alloc (.cells #[.bool s_a, .slice A_a n_a c_a, .slice A_ad n_ad c_ad] 27)) := ⟨_, rfl⟩
  have b_d : BoxD W (w.heap.size) (.bool s_d) (.slice A_d n_d c_d) (.int .i64 (o : Int)) := by rw [hW]; exact ((BoxD.new w _ _ _ rfl).al _)
  have b_a : Box3 W (w.heap.size + 1) (.bool s_a) (.slice A_a n_a c_a) (.slice A_ad n_ad c_ad) := by rw [hW]; exact (Box3.new _ _ _ _ (by simp))
  have hwW : Below w.heap.size w W := by rw [hW]; exact (((Below.refl _ _).alloc (Nat.le_refl _) _).alloc (by simp) _)
  have R_d := hide (Rd.upto h_d hwW hB)
  clear h_d
  have R_a := hide (Rd.upto h_a hwW hB)
  clear h_a
  have R_ad := hide (Rd.upto h_ad hwW hB)
  clear h_ad
  have B := hide hwW
  clear hwW
  clear hB
  have U0 : Below W.heap.size W W := Below.refl _ _
  have c_d0 := b_d.at0 b_d.lt_size (Nat.le_refl _)
  have c_d1 := b_d.at1 b_d.lt_size (Nat.le_refl _)
  have c_d2 := b_d.at2 b_d.lt_size (Nat.le_refl _)
  replace b_d := hide b_d
  have c_a0 := b_a.at0 b_a.lt_size (Nat.le_refl _)
  have c_a1 := b_a.at1 b_a.lt_size (Nat.le_refl _)
  have c_a2 := b_a.at2 b_a.lt_size (Nat.le_refl _)
  replace b_a := hide b_a
  go_enter Tryz.func6, Tryz.ntmps6
  go_wp2_with fail
  rw [← hW]
  clear hW
  refine (valid_yes f0.out f9.out h1.out h7.out).mono ?_
  rintro e w1 ⟨rfl, hb⟩
  replace R_d := hide (Rd.then_ R_d.out hb)
  replace R_a := hide (Rd.then_ R_a.out hb)
  replace R_ad := hide (Rd.then_ R_ad.out hb)
  have U1 : Below W.heap.size W w1 := Below.then_ U0 hb
  replace B := hide (Below.then_ B.out hb)
  clear hb
  go_wp2_with fail
  refine (pvalue_ok R_d.out gd.out (Nat.le_refl _) rfl ho.out e_q.out).mono ?_
  rintro e w2 ⟨A_v, c_v, A_vd, c_vd, rfl, R_v, R_vd, hb⟩
  replace R_d := hide (Rd.then_ R_d.out hb)
  replace R_a := hide (Rd.then_ R_a.out hb)
  replace R_ad := hide (Rd.then_ R_ad.out hb)
  have U2 : Below W.heap.size W w2 := Below.then_ U1 hb
  replace B := hide (Below.then_ B.out hb)
  replace R_v := hide R_v
  replace R_vd := hide R_vd
  clear hb
  have hbx : Below w2.heap.size w2 (w2.alloc (.cells #[.bool (zneg q.num), .slice A_v (dig (zmag q.num)).length c_v, .slice A_vd (dig q.den).length c_vd] 27)) := ((Below.refl _ _).alloc (Nat.le_refl _) _)
  have Ux := Below.then_ U2 hbx
  go_wp2_with fail
  obtain ⟨V2, hV⟩ : ∃ V, V = (w2.alloc (.cells #[.bool (zneg q.num), .slice A_v (dig (zmag q.num)).length c_v, .slice A_vd (dig q.den).length c_vd] 27)) := ⟨_, rfl⟩
  obtain ⟨g_v, hg_v⟩ : ∃ g, g = w2.heap.size := ⟨_, rfl⟩
  rw [← hV]
  rw [← hV] at hbx Ux
  rw [← hg_v]
  have b_v : Box3 V2 g_v (.bool (zneg q.num)) (.slice A_v (dig (zmag q.num)).length c_v) (.slice A_vd (dig q.den).length c_vd) := by rw [hV]; exact (Box3.new _ _ _ _ hg_v)
  clear hV
  have ne_d_v : w.heap.size ≠ g_v := by have := (b_d.out.lt b_d.out.lt_size (Nat.le_refl _)) _ U2; omega
  replace ne_d_v := hide ne_d_v
  have ne_a_v : w.heap.size + 1 ≠ g_v := by have := (b_a.out.lt b_a.out.lt_size (Nat.le_refl _)) _ U2; omega
  replace ne_a_v := hide ne_a_v
  have ge_v : w.heap.size ≤ g_v := by have := B.out.size; omega
  replace ge_v := hide ge_v
  clear hg_v
  replace R_d := hide (Rd.then_ R_d.out hbx)
  replace R_a := hide (Rd.then_ R_a.out hbx)
  replace R_ad := hide (Rd.then_ R_ad.out hbx)
  replace R_v := hide (Rd.then_ R_v.out hbx)
  replace R_vd := hide (Rd.then_ R_vd.out hbx)
  have U3 : Below W.heap.size W V2 := Below.then_ U2 hbx
  replace B := hide (Below.then_ B.out hbx)
  clear hbx
  replace b_d := hide (BoxD.keep b_d.out U3)
  clear c_d0 c_d1 c_d2
  replace b_a := hide (Box3.keep b_a.out U3)
  clear c_a0 c_a1 c_a2
  replace b_v := hide b_v
  have U4 : Below V2.heap.size V2 V2 := Below.refl _ _
  have c_d0 := b_d.out.at0 b_d.out.lt_size (Nat.le_refl _)
  have c_d1 := b_d.out.at1 b_d.out.lt_size (Nat.le_refl _)
  have c_d2 := b_d.out.at2 b_d.out.lt_size (Nat.le_refl _)
  have c_a0 := b_a.out.at0 b_a.out.lt_size (Nat.le_refl _)
  have c_a1 := b_a.out.at1 b_a.out.lt_size (Nat.le_refl _)
  have c_a2 := b_a.out.at2 b_a.out.lt_size (Nat.le_refl _)
  have c_v0 := b_v.out.at0 b_v.out.lt_size (Nat.le_refl _)
  have c_v1 := b_v.out.at1 b_v.out.lt_size (Nat.le_refl _)
  have c_v2 := b_v.out.at2 b_v.out.lt_size (Nat.le_refl _)
  refine (pround_any R_a.out ga.out.1 R_ad.out ga.out.2 (Nat.le_refl _) h9.out h1.out h7.out e_x.out e_z.out).mono ?_
  rintro e w3 ⟨A_x, c_x, rfl, R_x, hb⟩
  replace R_d := hide (Rd.then_ R_d.out hb)
  replace R_a := hide (Rd.then_ R_a.out hb)
  replace R_ad := hide (Rd.then_ R_ad.out hb)
  replace R_v := hide (Rd.then_ R_v.out hb)
  replace R_vd := hide (Rd.then_ R_vd.out hb)
  have U5 : Below V2.heap.size V2 w3 := Below.then_ U4 hb
  replace B := hide (Below.then_ B.out hb)
  replace R_x := hide R_x
  clear hb
  have hbx : Below w3.heap.size w3 (w3.alloc (.cells #[.bool (zneg z), .slice A_x (dig (zmag z)).length c_x, .int .i64 (p : Int)] 29)) := ((Below.refl _ _).alloc (Nat.le_refl _) _)
  have Ux := Below.then_ U5 hbx
  go_wp2_with fail
  obtain ⟨V5, hV⟩ : ∃ V, V = (w3.alloc (.cells #[.bool (zneg z), .slice A_x (dig (zmag z)).length c_x, .int .i64 (p : Int)] 29)) := ⟨_, rfl⟩
  obtain ⟨g_x, hg_x⟩ : ∃ g, g = w3.heap.size := ⟨_, rfl⟩
  rw [← hV]
  rw [← hV] at hbx Ux
  rw [← hg_x]
  have b_x : BoxD V5 g_x (.bool (zneg z)) (.slice A_x (dig (zmag z)).length c_x) (.int .i64 (p : Int)) := by rw [hV]; exact (BoxD.new _ _ _ _ hg_x)
  clear hV
  have ne_d_x : w.heap.size ≠ g_x := by have := (b_d.out.lt b_d.out.lt_size (Nat.le_refl _)) _ U5; omega
  replace ne_d_x := hide ne_d_x
  have ne_a_x : w.heap.size + 1 ≠ g_x := by have := (b_a.out.lt b_a.out.lt_size (Nat.le_refl _)) _ U5; omega
  replace ne_a_x := hide ne_a_x
  have ne_v_x : g_v ≠ g_x := by have := (b_v.out.lt b_v.out.lt_size (Nat.le_refl _)) _ U5; omega
  replace ne_v_x := hide ne_v_x
  have ge_x : w.heap.size ≤ g_x := by have := B.out.size; omega
  replace ge_x := hide ge_x
  clear hg_x
  replace R_d := hide (Rd.then_ R_d.out hbx)
  replace R_a := hide (Rd.then_ R_a.out hbx)
  replace R_ad := hide (Rd.then_ R_ad.out hbx)
  replace R_v := hide (Rd.then_ R_v.out hbx)
  replace R_vd := hide (Rd.then_ R_vd.out hbx)
  replace R_x := hide (Rd.then_ R_x.out hbx)
  have U6 : Below V2.heap.size V2 V5 := Below.then_ U5 hbx
  replace B := hide (Below.then_ B.out hbx)
  clear hbx
  replace b_d := hide (BoxD.keep b_d.out U6)
  clear c_d0 c_d1 c_d2
  replace b_a := hide (Box3.keep b_a.out U6)
  clear c_a0 c_a1 c_a2
  replace b_v := hide (Box3.keep b_v.out U6)
  clear c_v0 c_v1 c_v2
  replace b_x := hide b_x
  have U7 : Below V5.heap.size V5 V5 := Below.refl _ _
  have c_d0 := b_d.out.at0 b_d.out.lt_size (Nat.le_refl _)
  have c_d1 := b_d.out.at1 b_d.out.lt_size (Nat.le_refl _)
  have c_d2 := b_d.out.at2 b_d.out.lt_size (Nat.le_refl _)
  have c_a0 := b_a.out.at0 b_a.out.lt_size (Nat.le_refl _)
  have c_a1 := b_a.out.at1 b_a.out.lt_size (Nat.le_refl _)
  have c_a2 := b_a.out.at2 b_a.out.lt_size (Nat.le_refl _)
  have c_v0 := b_v.out.at0 b_v.out.lt_size (Nat.le_refl _)
  have c_v1 := b_v.out.at1 b_v.out.lt_size (Nat.le_refl _)
  have c_v2 := b_v.out.at2 b_v.out.lt_size (Nat.le_refl _)
  have c_x0 := b_x.out.at0 b_x.out.lt_size (Nat.le_refl _)
  have c_x1 := b_x.out.at1 b_x.out.lt_size (Nat.le_refl _)
  have c_x2 := b_x.out.at2 b_x.out.lt_size (Nat.le_refl _)
  go_loopw [16] (fun i wr => ∃ k : Nat, 1 ≤ k ∧ k ≤ 8 ∧ i = .int .i64 (k : Int) ∧ Below V5.heap.size V5 wr) (fun i _ => 8 - (intOf i).toNat)
  case atStart => exact ⟨1, by omega, by omega, rfl, Below.refl _ _⟩
  case round =>
    obtain ⟨k, hk1, hk8, rfl, hbk⟩ := hrel
    replace R_d := hide (Rd.then_ R_d.out hbk)
    replace R_a := hide (Rd.then_ R_a.out hbk)
    replace R_ad := hide (Rd.then_ R_ad.out hbk)
    replace R_v := hide (Rd.then_ R_v.out hbk)
    replace R_vd := hide (Rd.then_ R_vd.out hbk)
    replace R_x := hide (Rd.then_ R_x.out hbk)
    have U8 : Below V5.heap.size V5 wr := Below.then_ U7 hbk
    replace B := hide (Below.then_ B.out hbk)
    have L := hide hbk
    clear hbk
    by_cases hk : k ≤ 7
    · have e7 : decide ((k : Int) ≤ 7) = true := decide_eq_true (by omega)
      have l1 : (1 : Int) ≤ (k : Int) := by omega
      replace l1 := hide l1
      have l7 : (k : Int) ≤ 7 := by omega
      replace l7 := hide l7
      go_wp2_with fail
      refine (prescale_any R_x.out bz.out (Nat.le_refl _) rfl h9.out h9.out l1.out l7.out e_y.out rfl (e_r.out _)).mono ?_
      rintro e w4 ⟨A_y, c_y, rfl, R_y, hb⟩
      replace R_d := hide (Rd.then_ R_d.out hb)
      replace R_a := hide (Rd.then_ R_a.out hb)
      replace R_ad := hide (Rd.then_ R_ad.out hb)
      replace R_v := hide (Rd.then_ R_v.out hb)
      replace R_vd := hide (Rd.then_ R_vd.out hb)
      replace R_x := hide (Rd.then_ R_x.out hb)
      have U9 : Below V5.heap.size V5 w4 := Below.then_ U8 hb
      replace B := hide (Below.then_ B.out hb)
      replace L := hide (Below.then_ L.out hb)
      replace R_y := hide R_y
      clear hb
      have hbx : Below w4.heap.size w4 (w4.alloc (.cells #[.bool (zneg z), .slice A_y (dig (zmag z)).length c_y, .int .i64 (p : Int)] 29)) := ((Below.refl _ _).alloc (Nat.le_refl _) _)
      have Ux := Below.then_ U9 hbx
      go_wp2_with fail
      obtain ⟨V9, hV⟩ : ∃ V, V = (w4.alloc (.cells #[.bool (zneg z), .slice A_y (dig (zmag z)).length c_y, .int .i64 (p : Int)] 29)) := ⟨_, rfl⟩
      obtain ⟨g_y, hg_y⟩ : ∃ g, g = w4.heap.size := ⟨_, rfl⟩
      rw [← hV]
      rw [← hV] at hbx Ux
      rw [← hg_y]
      have b_y : BoxD V9 g_y (.bool (zneg z)) (.slice A_y (dig (zmag z)).length c_y) (.int .i64 (p : Int)) := by rw [hV]; exact (BoxD.new _ _ _ _ hg_y)
      clear hV
      have ne_d_y : w.heap.size ≠ g_y := by have := (b_d.out.lt b_d.out.lt_size (Nat.le_refl _)) _ U9; omega
      replace ne_d_y := hide ne_d_y
      have ne_a_y : w.heap.size + 1 ≠ g_y := by have := (b_a.out.lt b_a.out.lt_size (Nat.le_refl _)) _ U9; omega
      replace ne_a_y := hide ne_a_y
      have ne_v_y : g_v ≠ g_y := by have := (b_v.out.lt b_v.out.lt_size (Nat.le_refl _)) _ U9; omega
      replace ne_v_y := hide ne_v_y
      have ne_x_y : g_x ≠ g_y := by have := (b_x.out.lt b_x.out.lt_size (Nat.le_refl _)) _ U9; omega
      replace ne_x_y := hide ne_x_y
      have ge_y : w.heap.size ≤ g_y := by have := B.out.size; omega
      replace ge_y := hide ge_y
      clear hg_y
      replace R_d := hide (Rd.then_ R_d.out hbx)
      replace R_a := hide (Rd.then_ R_a.out hbx)
      replace R_ad := hide (Rd.then_ R_ad.out hbx)
      replace R_v := hide (Rd.then_ R_v.out hbx)
      replace R_vd := hide (Rd.then_ R_vd.out hbx)
      replace R_x := hide (Rd.then_ R_x.out hbx)
      replace R_y := hide (Rd.then_ R_y.out hbx)
      have U10 : Below V5.heap.size V5 V9 := Below.then_ U9 hbx
      replace B := hide (Below.then_ B.out hbx)
      replace L := hide (Below.then_ L.out hbx)
      clear hbx
      replace b_d := hide (BoxD.keep b_d.out U10)
      clear c_d0 c_d1 c_d2
      replace b_a := hide (Box3.keep b_a.out U10)
      clear c_a0 c_a1 c_a2
      replace b_v := hide (Box3.keep b_v.out U10)
      clear c_v0 c_v1 c_v2
      replace b_x := hide (BoxD.keep b_x.out U10)
      clear c_x0 c_x1 c_x2
      replace b_y := hide b_y
      have U11 : Below V9.heap.size V9 V9 := Below.refl _ _
      have c_d0 := b_d.out.at0 b_d.out.lt_size (Nat.le_refl _)
      have c_d1 := b_d.out.at1 b_d.out.lt_size (Nat.le_refl _)
      have c_d2 := b_d.out.at2 b_d.out.lt_size (Nat.le_refl _)
      have c_a0 := b_a.out.at0 b_a.out.lt_size (Nat.le_refl _)
      have c_a1 := b_a.out.at1 b_a.out.lt_size (Nat.le_refl _)
      have c_a2 := b_a.out.at2 b_a.out.lt_size (Nat.le_refl _)
      have c_v0 := b_v.out.at0 b_v.out.lt_size (Nat.le_refl _)
      have c_v1 := b_v.out.at1 b_v.out.lt_size (Nat.le_refl _)
      have c_v2 := b_v.out.at2 b_v.out.lt_size (Nat.le_refl _)
      have c_x0 := b_x.out.at0 b_x.out.lt_size (Nat.le_refl _)
      have c_x1 := b_x.out.at1 b_x.out.lt_size (Nat.le_refl _)
      have c_x2 := b_x.out.at2 b_x.out.lt_size (Nat.le_refl _)
      have c_y0 := b_y.out.at0 b_y.out.lt_size (Nat.le_refl _)
      have c_y1 := b_y.out.at1 b_y.out.lt_size (Nat.le_refl _)
      have c_y2 := b_y.out.at2 b_y.out.lt_size (Nat.le_refl _)
      refine (samedec_any R_x.out R_y.out (Nat.le_refl _)).mono ?_
      rintro e w5 ⟨rfl, hb⟩
      replace R_d := hide (Rd.then_ R_d.out hb)
      replace R_a := hide (Rd.then_ R_a.out hb)
      replace R_ad := hide (Rd.then_ R_ad.out hb)
      replace R_v := hide (Rd.then_ R_v.out hb)
      replace R_vd := hide (Rd.then_ R_vd.out hb)
      replace R_x := hide (Rd.then_ R_x.out hb)
      replace R_y := hide (Rd.then_ R_y.out hb)
      have U12 : Below V9.heap.size V9 w5 := Below.then_ U11 hb
      replace B := hide (Below.then_ B.out hb)
      replace L := hide (Below.then_ L.out hb)
      clear hb
      go_wp2
      go_round
      case rel => exact ⟨k + 1, by omega, by omega, by go_num, L.out⟩
      case measure => simp [intOf]; omega
    · have e7 : decide ((k : Int) ≤ 7) = false := decide_eq_false (by omega)
      go_wp2_with fail
      refine (awake_any).mono ?_
      rintro e w24 ⟨rfl, hb⟩
      replace R_d := hide (Rd.then_ R_d.out hb)
      replace R_a := hide (Rd.then_ R_a.out hb)
      replace R_ad := hide (Rd.then_ R_ad.out hb)
      replace R_v := hide (Rd.then_ R_v.out hb)
      replace R_vd := hide (Rd.then_ R_vd.out hb)
      replace R_x := hide (Rd.then_ R_x.out hb)
      have U49 : Below V5.heap.size V5 w24 := Below.then_ U8 hb
      replace B := hide (Below.then_ B.out hb)
      clear hb
      go_wp2
      go_ret
      exact ⟨rfl, B.out⟩

set_option maxHeartbeats 4000000 in
theorem keep_more {w : World} {Bd : Nat} {A_d : Option Addr} {n_d c_d : Nat} {x_d : List Nat} {s_d : Bool} {p_d : Int} {A_a : Option Addr} {n_a c_a : Nat} {x_a : List Nat} {s_a : Bool} {A_ad : Option Addr} {n_ad c_ad : Nat} {x_ad : List Nat} {p : Nat} {m : Int} (h_d : Rd w Bd A_d n_d c_d x_d) (g_d : n_d ≤ 10000000) (h_a : Rd w Bd A_a n_a c_a x_a) (g_a : n_a ≤ 10000000) (h_ad : Rd w Bd A_ad n_ad c_ad x_ad) (g_ad : n_ad ≤ 10000000) (hB : Bd ≤ w.heap.size) (h9 : p ≤ 9) (h1 : 1 ≤ m) (h7 : m ≤ 7) {o : Nat} (hp : p_d = (o : Int)) (ho : o ≤ 9) (hop : o ≤ p) :
    Calls Tryz.prog 6 #[.agg #[.bool s_d, .slice A_d n_d c_d, .int .i64 p_d], .agg #[.bool s_a, .slice A_a n_a c_a, .slice A_ad n_ad c_ad], .int .i64 (p : Int), .int .i64 m] w (RetB w (.bool true)) := by
  have s_q := sz_rd (q := qv s_a (val x_a) (val x_ad)) h_a h_ad rfl g_a g_ad
  obtain ⟨x, e_x⟩ : ∃ new, qv s_a (val x_a) (val x_ad) * ((10 ^ p : Nat) : Rat) = new := ⟨_, rfl⟩
  replace e_x := hide e_x
  have lT : 10 ^ p < pw 1 := Nat.lt_of_le_of_lt (Nat.pow_le_pow_right (by omega) h9) (by decide)
  have s_x : (dig (zmag x.num)).length ≤ 10000001 + 1 ∧ (dig x.den).length ≤ 10000001 + 1 := sz_mul e_x.out s_q (sz_int (z := ((10 ^ p : Nat) : Int)) lT (by omega))
  obtain ⟨z, e_z⟩ : ∃ new, rnd m x = new := ⟨_, rfl⟩
  replace e_z := hide e_z
  have l_z := rnd_len e_z.out s_x
  have bz : (dig (zmag z)).length ≤ 100000000 := by have := zl l_z; omega
  replace bz := hide bz
  obtain ⟨y, e_y0⟩ : ∃ new, mkRat z (10 ^ p) = new := ⟨_, rfl⟩
  replace e_y0 := hide e_y0
  have e_r : ∀ k, rnd k (y * ((10 ^ p : Nat) : Rat)) = z := rnd_back e_y0.out
  replace e_r := hide e_r
  have e_y : mkRat (iv (zneg z) (val (dig (zmag z)))) (10 ^ p) = y := by rw [ivz]; exact e_y0.out
  replace e_y := hide e_y
  have ga : n_a ≤ 1000000000 ∧ n_ad ≤ 1000000000 := by omega
  replace ga := hide ga
  have f0 : (0 : Int) ≤ (p : Int) := by omega
  replace f0 := hide f0
  have f9 : (p : Int) ≤ 9 := by omega
  replace f9 := hide f9
  subst hp
  obtain ⟨q, e_q⟩ : ∃ new, mkRat (iv s_d (val x_d)) (10 ^ o) = new := ⟨_, rfl⟩
  replace e_q := hide e_q
  have lo : 10 ^ o < pw 1 := Nat.lt_of_le_of_lt (Nat.pow_le_pow_right (by omega) ho) (by decide)
  have hc : decide (o ≤ p) = true := decide_eq_true hop
  have s_v : (dig (zmag q.num)).length ≤ 10000000 + 1 ∧ (dig q.den).length ≤ 10000000 + 1 := by rw [← e_q.out]; exact sz_mk (pw_le (by omega) (zl_iv h_d.lt)) (pw_le (by omega) lo) (by omega)
  have bq : (dig (zmag q.num)).length ≤ 1000000000 ∧ (dig q.den).length ≤ 1000000000 := by omega
  replace bq := hide bq
  obtain ⟨t, e_t⟩ : ∃ new, q * ((10 ^ p : Nat) : Rat) = new := ⟨_, rfl⟩
  replace e_t := hide e_t
  have s_t : (dig (zmag t.num)).length ≤ 10000001 + 1 ∧ (dig t.den).length ≤ 10000001 + 1 := sz_mul e_t.out s_v (sz_int (z := ((10 ^ p : Nat) : Int)) lT (by omega))
  obtain ⟨u, e_u⟩ : ∃ new, rnd m t = new := ⟨_, rfl⟩
  replace e_u := hide e_u
  have l_u := rnd_len e_u.out s_t
  have bu : (dig (zmag u)).length ≤ 10000000000 := by have := zl l_u; omega
  replace bu := hide bu
  have e_w : mkRat (iv (zneg u) (val (dig (zmag u)))) (10 ^ p) = q := by rw [ivz]; exact keep_val hop e_q.out e_t.out e_u.out
  replace e_w := hide e_w
  have e_c : sgn (qv (zneg q.num) (val (dig (zmag q.num))) (val (dig q.den)) - qv (zneg q.num) (val (dig (zmag q.num))) (val (dig q.den))).num = 0 := by rw [Rat.sub_self]; rfl
  replace e_c := hide e_c
  have gd8 : n_d ≤ 100000000 := by omega
  replace gd8 := hide gd8
  clear hop lo s_v s_t l_u
  replace ho := hide ho
  have gd : n_d ≤ 10000000000 := by omega
  replace gd := hide gd
  clear s_q s_x l_z lT
  replace h9 := hide h9
  replace h1 := hide h1
  replace h7 := hide h7
  obtain ⟨W, hW⟩ : ∃ W, W = ((w.alloc (.cells #[.bool s_d, .slice A_d n_d c_d, .int .i64 (o : Int)] 29)).alloc (.cells #[.bool s_a, .slice A_a n_a c_a, .slice A_ad n_ad c_ad] 27)) := ⟨_, rfl⟩
  have b_d : BoxD W (w.heap.size) (.bool s_d) (.slice A_d n_d c_d) (.int .i64 (o : Int)) := by rw [hW]; exact ((BoxD.new w _ _ _ rfl).al _)
  have b_a : Box3 W (w.heap.size + 1) (.bool s_a) (.slice A_a n_a c_a) (.slice A_ad n_ad c_ad) := by rw [hW]; exact (Box3.new _ _ _ _ (by simp))
  have hwW : Below w.heap.size w W := by rw [hW]; exact (((Below.refl _ _).alloc (Nat.le_refl _) _).alloc (by simp) _)
  have R_d := hide (Rd.upto h_d hwW hB)
  clear h_d
  have R_a := hide (Rd.upto h_a hwW hB)
  clear h_a
  have R_ad := hide (Rd.upto h_ad hwW hB)
  clear h_ad
  have B := hide hwW
  clear hwW
  clear hB
  have U0 : Below W.heap.size W W := Below.refl _ _
  have c_d0 := b_d.at0 b_d.lt_size (Nat.le_refl _)
  have c_d1 := b_d.at1 b_d.lt_size (Nat.le_refl _)
  have c_d2 := b_d.at2 b_d.lt_size (Nat.le_refl _)
  replace b_d := hide b_d
  have c_a0 := b_a.at0 b_a.lt_size (Nat.le_refl _)
  have c_a1 := b_a.at1 b_a.lt_size (Nat.le_refl _)
  have c_a2 := b_a.at2 b_a.lt_size (Nat.le_refl _)
  replace b_a := hide b_a
  go_enter Tryz.func6, Tryz.ntmps6
  go_wp2_with fail
  rw [← hW]
  clear hW
  refine (valid_yes f0.out f9.out h1.out h7.out).mono ?_
  rintro e w1 ⟨rfl, hb⟩
  replace R_d := hide (Rd.then_ R_d.out hb)
  replace R_a := hide (Rd.then_ R_a.out hb)
  replace R_ad := hide (Rd.then_ R_ad.out hb)
  have U1 : Below W.heap.size W w1 := Below.then_ U0 hb
  replace B := hide (Below.then_ B.out hb)
  clear hb
  go_wp2_with fail
  refine (pvalue_ok R_d.out gd.out (Nat.le_refl _) rfl ho.out e_q.out).mono ?_
  rintro e w2 ⟨A_v, c_v, A_vd, c_vd, rfl, R_v, R_vd, hb⟩
  replace R_d := hide (Rd.then_ R_d.out hb)
  replace R_a := hide (Rd.then_ R_a.out hb)
  replace R_ad := hide (Rd.then_ R_ad.out hb)
  have U2 : Below W.heap.size W w2 := Below.then_ U1 hb
  replace B := hide (Below.then_ B.out hb)
  replace R_v := hide R_v
  replace R_vd := hide R_vd
  clear hb
  have hbx : Below w2.heap.size w2 (w2.alloc (.cells #[.bool (zneg q.num), .slice A_v (dig (zmag q.num)).length c_v, .slice A_vd (dig q.den).length c_vd] 27)) := ((Below.refl _ _).alloc (Nat.le_refl _) _)
  have Ux := Below.then_ U2 hbx
  go_wp2_with fail
  obtain ⟨V2, hV⟩ : ∃ V, V = (w2.alloc (.cells #[.bool (zneg q.num), .slice A_v (dig (zmag q.num)).length c_v, .slice A_vd (dig q.den).length c_vd] 27)) := ⟨_, rfl⟩
  obtain ⟨g_v, hg_v⟩ : ∃ g, g = w2.heap.size := ⟨_, rfl⟩
  rw [← hV]
  rw [← hV] at hbx Ux
  rw [← hg_v]
  have b_v : Box3 V2 g_v (.bool (zneg q.num)) (.slice A_v (dig (zmag q.num)).length c_v) (.slice A_vd (dig q.den).length c_vd) := by rw [hV]; exact (Box3.new _ _ _ _ hg_v)
  clear hV
  have ne_d_v : w.heap.size ≠ g_v := by have := (b_d.out.lt b_d.out.lt_size (Nat.le_refl _)) _ U2; omega
  replace ne_d_v := hide ne_d_v
  have ne_a_v : w.heap.size + 1 ≠ g_v := by have := (b_a.out.lt b_a.out.lt_size (Nat.le_refl _)) _ U2; omega
  replace ne_a_v := hide ne_a_v
  have ge_v : w.heap.size ≤ g_v := by have := B.out.size; omega
  replace ge_v := hide ge_v
  clear hg_v
  replace R_d := hide (Rd.then_ R_d.out hbx)
  replace R_a := hide (Rd.then_ R_a.out hbx)
  replace R_ad := hide (Rd.then_ R_ad.out hbx)
  replace R_v := hide (Rd.then_ R_v.out hbx)
  replace R_vd := hide (Rd.then_ R_vd.out hbx)
  have U3 : Below W.heap.size W V2 := Below.then_ U2 hbx
  replace B := hide (Below.then_ B.out hbx)
  clear hbx
  replace b_d := hide (BoxD.keep b_d.out U3)
  clear c_d0 c_d1 c_d2
  replace b_a := hide (Box3.keep b_a.out U3)
  clear c_a0 c_a1 c_a2
  replace b_v := hide b_v
  have U4 : Below V2.heap.size V2 V2 := Below.refl _ _
  have c_d0 := b_d.out.at0 b_d.out.lt_size (Nat.le_refl _)
  have c_d1 := b_d.out.at1 b_d.out.lt_size (Nat.le_refl _)
  have c_d2 := b_d.out.at2 b_d.out.lt_size (Nat.le_refl _)
  have c_a0 := b_a.out.at0 b_a.out.lt_size (Nat.le_refl _)
  have c_a1 := b_a.out.at1 b_a.out.lt_size (Nat.le_refl _)
  have c_a2 := b_a.out.at2 b_a.out.lt_size (Nat.le_refl _)
  have c_v0 := b_v.out.at0 b_v.out.lt_size (Nat.le_refl _)
  have c_v1 := b_v.out.at1 b_v.out.lt_size (Nat.le_refl _)
  have c_v2 := b_v.out.at2 b_v.out.lt_size (Nat.le_refl _)
  refine (prescale_any R_d.out gd8.out (Nat.le_refl _) rfl ho.out h9.out h1.out h7.out e_q.out e_t.out e_u.out).mono ?_
  rintro e w3 ⟨A_c, c_c, rfl, R_c, hb⟩
  replace R_d := hide (Rd.then_ R_d.out hb)
  replace R_a := hide (Rd.then_ R_a.out hb)
  replace R_ad := hide (Rd.then_ R_ad.out hb)
  replace R_v := hide (Rd.then_ R_v.out hb)
  replace R_vd := hide (Rd.then_ R_vd.out hb)
  have U5 : Below V2.heap.size V2 w3 := Below.then_ U4 hb
  replace B := hide (Below.then_ B.out hb)
  replace R_c := hide R_c
  clear hb
  have hbx : Below w3.heap.size w3 (w3.alloc (.cells #[.bool (zneg u), .slice A_c (dig (zmag u)).length c_c, .int .i64 (p : Int)] 29)) := ((Below.refl _ _).alloc (Nat.le_refl _) _)
  have Ux := Below.then_ U5 hbx
  go_wp2_with fail
  obtain ⟨V5, hV⟩ : ∃ V, V = (w3.alloc (.cells #[.bool (zneg u), .slice A_c (dig (zmag u)).length c_c, .int .i64 (p : Int)] 29)) := ⟨_, rfl⟩
  obtain ⟨g_c, hg_c⟩ : ∃ g, g = w3.heap.size := ⟨_, rfl⟩
  rw [← hV]
  rw [← hV] at hbx Ux
  rw [← hg_c]
  have b_c : BoxD V5 g_c (.bool (zneg u)) (.slice A_c (dig (zmag u)).length c_c) (.int .i64 (p : Int)) := by rw [hV]; exact (BoxD.new _ _ _ _ hg_c)
  clear hV
  have ne_d_c : w.heap.size ≠ g_c := by have := (b_d.out.lt b_d.out.lt_size (Nat.le_refl _)) _ U5; omega
  replace ne_d_c := hide ne_d_c
  have ne_a_c : w.heap.size + 1 ≠ g_c := by have := (b_a.out.lt b_a.out.lt_size (Nat.le_refl _)) _ U5; omega
  replace ne_a_c := hide ne_a_c
  have ne_v_c : g_v ≠ g_c := by have := (b_v.out.lt b_v.out.lt_size (Nat.le_refl _)) _ U5; omega
  replace ne_v_c := hide ne_v_c
  have ge_c : w.heap.size ≤ g_c := by have := B.out.size; omega
  replace ge_c := hide ge_c
  clear hg_c
  replace R_d := hide (Rd.then_ R_d.out hbx)
  replace R_a := hide (Rd.then_ R_a.out hbx)
  replace R_ad := hide (Rd.then_ R_ad.out hbx)
  replace R_v := hide (Rd.then_ R_v.out hbx)
  replace R_vd := hide (Rd.then_ R_vd.out hbx)
  replace R_c := hide (Rd.then_ R_c.out hbx)
  have U6 : Below V2.heap.size V2 V5 := Below.then_ U5 hbx
  replace B := hide (Below.then_ B.out hbx)
  clear hbx
  replace b_d := hide (BoxD.keep b_d.out U6)
  clear c_d0 c_d1 c_d2
  replace b_a := hide (Box3.keep b_a.out U6)
  clear c_a0 c_a1 c_a2
  replace b_v := hide (Box3.keep b_v.out U6)
  clear c_v0 c_v1 c_v2
  replace b_c := hide b_c
  have U7 : Below V5.heap.size V5 V5 := Below.refl _ _
  have c_d0 := b_d.out.at0 b_d.out.lt_size (Nat.le_refl _)
  have c_d1 := b_d.out.at1 b_d.out.lt_size (Nat.le_refl _)
  have c_d2 := b_d.out.at2 b_d.out.lt_size (Nat.le_refl _)
  have c_a0 := b_a.out.at0 b_a.out.lt_size (Nat.le_refl _)
  have c_a1 := b_a.out.at1 b_a.out.lt_size (Nat.le_refl _)
  have c_a2 := b_a.out.at2 b_a.out.lt_size (Nat.le_refl _)
  have c_v0 := b_v.out.at0 b_v.out.lt_size (Nat.le_refl _)
  have c_v1 := b_v.out.at1 b_v.out.lt_size (Nat.le_refl _)
  have c_v2 := b_v.out.at2 b_v.out.lt_size (Nat.le_refl _)
  have c_c0 := b_c.out.at0 b_c.out.lt_size (Nat.le_refl _)
  have c_c1 := b_c.out.at1 b_c.out.lt_size (Nat.le_refl _)
  have c_c2 := b_c.out.at2 b_c.out.lt_size (Nat.le_refl _)
  refine (pvalue_ok R_c.out bu.out (Nat.le_refl _) rfl h9.out e_w.out).mono ?_
  rintro e w4 ⟨A_w2, c_w2, A_w2d, c_w2d, rfl, R_w2, R_w2d, hb⟩
  replace R_d := hide (Rd.then_ R_d.out hb)
  replace R_a := hide (Rd.then_ R_a.out hb)
  replace R_ad := hide (Rd.then_ R_ad.out hb)
  replace R_v := hide (Rd.then_ R_v.out hb)
  replace R_vd := hide (Rd.then_ R_vd.out hb)
  replace R_c := hide (Rd.then_ R_c.out hb)
  have U8 : Below V5.heap.size V5 w4 := Below.then_ U7 hb
  replace B := hide (Below.then_ B.out hb)
  replace R_w2 := hide R_w2
  replace R_w2d := hide R_w2d
  clear hb
  have hbx : Below w4.heap.size w4 (w4.alloc (.cells #[.bool (zneg q.num), .slice A_w2 (dig (zmag q.num)).length c_w2, .slice A_w2d (dig q.den).length c_w2d] 27)) := ((Below.refl _ _).alloc (Nat.le_refl _) _)
  have Ux := Below.then_ U8 hbx
  go_wp2_with fail
  obtain ⟨V8, hV⟩ : ∃ V, V = (w4.alloc (.cells #[.bool (zneg q.num), .slice A_w2 (dig (zmag q.num)).length c_w2, .slice A_w2d (dig q.den).length c_w2d] 27)) := ⟨_, rfl⟩
  obtain ⟨g_w2, hg_w2⟩ : ∃ g, g = w4.heap.size := ⟨_, rfl⟩
  rw [← hV]
  rw [← hV] at hbx Ux
  rw [← hg_w2]
  have b_w2 : Box3 V8 g_w2 (.bool (zneg q.num)) (.slice A_w2 (dig (zmag q.num)).length c_w2) (.slice A_w2d (dig q.den).length c_w2d) := by rw [hV]; exact (Box3.new _ _ _ _ hg_w2)
  clear hV
  have ne_d_w2 : w.heap.size ≠ g_w2 := by have := (b_d.out.lt b_d.out.lt_size (Nat.le_refl _)) _ U8; omega
  replace ne_d_w2 := hide ne_d_w2
  have ne_a_w2 : w.heap.size + 1 ≠ g_w2 := by have := (b_a.out.lt b_a.out.lt_size (Nat.le_refl _)) _ U8; omega
  replace ne_a_w2 := hide ne_a_w2
  have ne_v_w2 : g_v ≠ g_w2 := by have := (b_v.out.lt b_v.out.lt_size (Nat.le_refl _)) _ U8; omega
  replace ne_v_w2 := hide ne_v_w2
  have ne_c_w2 : g_c ≠ g_w2 := by have := (b_c.out.lt b_c.out.lt_size (Nat.le_refl _)) _ U8; omega
  replace ne_c_w2 := hide ne_c_w2
  have ge_w2 : w.heap.size ≤ g_w2 := by have := B.out.size; omega
  replace ge_w2 := hide ge_w2
  clear hg_w2
  replace R_d := hide (Rd.then_ R_d.out hbx)
  replace R_a := hide (Rd.then_ R_a.out hbx)
  replace R_ad := hide (Rd.then_ R_ad.out hbx)
  replace R_v := hide (Rd.then_ R_v.out hbx)
  replace R_vd := hide (Rd.then_ R_vd.out hbx)
  replace R_c := hide (Rd.then_ R_c.out hbx)
  replace R_w2 := hide (Rd.then_ R_w2.out hbx)
  replace R_w2d := hide (Rd.then_ R_w2d.out hbx)
  have U9 : Below V5.heap.size V5 V8 := Below.then_ U8 hbx
  replace B := hide (Below.then_ B.out hbx)
  clear hbx
  replace b_d := hide (BoxD.keep b_d.out U9)
  clear c_d0 c_d1 c_d2
  replace b_a := hide (Box3.keep b_a.out U9)
  clear c_a0 c_a1 c_a2
  replace b_v := hide (Box3.keep b_v.out U9)
  clear c_v0 c_v1 c_v2
  replace b_c := hide (BoxD.keep b_c.out U9)
  clear c_c0 c_c1 c_c2
  replace b_w2 := hide b_w2
  have U10 : Below V8.heap.size V8 V8 := Below.refl _ _
  have c_d0 := b_d.out.at0 b_d.out.lt_size (Nat.le_refl _)
  have c_d1 := b_d.out.at1 b_d.out.lt_size (Nat.le_refl _)
  have c_d2 := b_d.out.at2 b_d.out.lt_size (Nat.le_refl _)
  have c_a0 := b_a.out.at0 b_a.out.lt_size (Nat.le_refl _)
  have c_a1 := b_a.out.at1 b_a.out.lt_size (Nat.le_refl _)
  have c_a2 := b_a.out.at2 b_a.out.lt_size (Nat.le_refl _)
  have c_v0 := b_v.out.at0 b_v.out.lt_size (Nat.le_refl _)
  have c_v1 := b_v.out.at1 b_v.out.lt_size (Nat.le_refl _)
  have c_v2 := b_v.out.at2 b_v.out.lt_size (Nat.le_refl _)
  have c_c0 := b_c.out.at0 b_c.out.lt_size (Nat.le_refl _)
  have c_c1 := b_c.out.at1 b_c.out.lt_size (Nat.le_refl _)
  have c_c2 := b_c.out.at2 b_c.out.lt_size (Nat.le_refl _)
  have c_w20 := b_w2.out.at0 b_w2.out.lt_size (Nat.le_refl _)
  have c_w21 := b_w2.out.at1 b_w2.out.lt_size (Nat.le_refl _)
  have c_w22 := b_w2.out.at2 b_w2.out.lt_size (Nat.le_refl _)
  refine (pcmp_any R_v.out bq.out.1 R_vd.out bq.out.2 R_w2.out bq.out.1 R_w2d.out bq.out.2 (Nat.le_refl _) e_c.out).mono ?_
  rintro e w5 ⟨rfl, hb⟩
  replace R_d := hide (Rd.then_ R_d.out hb)
  replace R_a := hide (Rd.then_ R_a.out hb)
  replace R_ad := hide (Rd.then_ R_ad.out hb)
  replace R_v := hide (Rd.then_ R_v.out hb)
  replace R_vd := hide (Rd.then_ R_vd.out hb)
  replace R_c := hide (Rd.then_ R_c.out hb)
  replace R_w2 := hide (Rd.then_ R_w2.out hb)
  replace R_w2d := hide (Rd.then_ R_w2d.out hb)
  have U11 : Below V8.heap.size V8 w5 := Below.then_ U10 hb
  replace B := hide (Below.then_ B.out hb)
  clear hb
  go_wp2_with fail
  refine (pround_any R_a.out ga.out.1 R_ad.out ga.out.2 (Nat.le_refl _) h9.out h1.out h7.out e_x.out e_z.out).mono ?_
  rintro e w6 ⟨A_x, c_x, rfl, R_x, hb⟩
  replace R_d := hide (Rd.then_ R_d.out hb)
  replace R_a := hide (Rd.then_ R_a.out hb)
  replace R_ad := hide (Rd.then_ R_ad.out hb)
  replace R_v := hide (Rd.then_ R_v.out hb)
  replace R_vd := hide (Rd.then_ R_vd.out hb)
  replace R_c := hide (Rd.then_ R_c.out hb)
  replace R_w2 := hide (Rd.then_ R_w2.out hb)
  replace R_w2d := hide (Rd.then_ R_w2d.out hb)
  have U12 : Below V8.heap.size V8 w6 := Below.then_ U11 hb
  replace B := hide (Below.then_ B.out hb)
  replace R_x := hide R_x
  clear hb
  have hbx : Below w6.heap.size w6 (w6.alloc (.cells #[.bool (zneg z), .slice A_x (dig (zmag z)).length c_x, .int .i64 (p : Int)] 29)) := ((Below.refl _ _).alloc (Nat.le_refl _) _)
  have Ux := Below.then_ U12 hbx
  go_wp2_with fail
  obtain ⟨V12, hV⟩ : ∃ V, V = (w6.alloc (.cells #[.bool (zneg z), .slice A_x (dig (zmag z)).length c_x, .int .i64 (p : Int)] 29)) := ⟨_, rfl⟩
  obtain ⟨g_x, hg_x⟩ : ∃ g, g = w6.heap.size := ⟨_, rfl⟩
  rw [← hV]
  rw [← hV] at hbx Ux
  rw [← hg_x]
  have b_x : BoxD V12 g_x (.bool (zneg z)) (.slice A_x (dig (zmag z)).length c_x) (.int .i64 (p : Int)) := by rw [hV]; exact (BoxD.new _ _ _ _ hg_x)
  clear hV
  have ne_d_x : w.heap.size ≠ g_x := by have := (b_d.out.lt b_d.out.lt_size (Nat.le_refl _)) _ U12; omega
  replace ne_d_x := hide ne_d_x
  have ne_a_x : w.heap.size + 1 ≠ g_x := by have := (b_a.out.lt b_a.out.lt_size (Nat.le_refl _)) _ U12; omega
  replace ne_a_x := hide ne_a_x
  have ne_v_x : g_v ≠ g_x := by have := (b_v.out.lt b_v.out.lt_size (Nat.le_refl _)) _ U12; omega
  replace ne_v_x := hide ne_v_x
  have ne_c_x : g_c ≠ g_x := by have := (b_c.out.lt b_c.out.lt_size (Nat.le_refl _)) _ U12; omega
  replace ne_c_x := hide ne_c_x
  have ne_w2_x : g_w2 ≠ g_x := by have := (b_w2.out.lt b_w2.out.lt_size (Nat.le_refl _)) _ U12; omega
  replace ne_w2_x := hide ne_w2_x
  have ge_x : w.heap.size ≤ g_x := by have := B.out.size; omega
  replace ge_x := hide ge_x
  clear hg_x
  replace R_d := hide (Rd.then_ R_d.out hbx)
  replace R_a := hide (Rd.then_ R_a.out hbx)
  replace R_ad := hide (Rd.then_ R_ad.out hbx)
  replace R_v := hide (Rd.then_ R_v.out hbx)
  replace R_vd := hide (Rd.then_ R_vd.out hbx)
  replace R_c := hide (Rd.then_ R_c.out hbx)
  replace R_w2 := hide (Rd.then_ R_w2.out hbx)
  replace R_w2d := hide (Rd.then_ R_w2d.out hbx)
  replace R_x := hide (Rd.then_ R_x.out hbx)
  have U13 : Below V8.heap.size V8 V12 := Below.then_ U12 hbx
  replace B := hide (Below.then_ B.out hbx)
  clear hbx
  replace b_d := hide (BoxD.keep b_d.out U13)
  clear c_d0 c_d1 c_d2
  replace b_a := hide (Box3.keep b_a.out U13)
  clear c_a0 c_a1 c_a2
  replace b_v := hide (Box3.keep b_v.out U13)
  clear c_v0 c_v1 c_v2
  replace b_c := hide (BoxD.keep b_c.out U13)
  clear c_c0 c_c1 c_c2
  replace b_w2 := hide (Box3.keep b_w2.out U13)
  clear c_w20 c_w21 c_w22
  replace b_x := hide b_x
  have U14 : Below V12.heap.size V12 V12 := Below.refl _ _
  have c_d0 := b_d.out.at0 b_d.out.lt_size (Nat.le_refl _)
  have c_d1 := b_d.out.at1 b_d.out.lt_size (Nat.le_refl _)
  have c_d2 := b_d.out.at2 b_d.out.lt_size (Nat.le_refl _)
  have c_a0 := b_a.out.at0 b_a.out.lt_size (Nat.le_refl _)
  have c_a1 := b_a.out.at1 b_a.out.lt_size (Nat.le_refl _)
  have c_a2 := b_a.out.at2 b_a.out.lt_size (Nat.le_refl _)
  have c_v0 := b_v.out.at0 b_v.out.lt_size (Nat.le_refl _)
  have c_v1 := b_v.out.at1 b_v.out.lt_size (Nat.le_refl _)
  have c_v2 := b_v.out.at2 b_v.out.lt_size (Nat.le_refl _)
  have c_c0 := b_c.out.at0 b_c.out.lt_size (Nat.le_refl _)
  have c_c1 := b_c.out.at1 b_c.out.lt_size (Nat.le_refl _)
  have c_c2 := b_c.out.at2 b_c.out.lt_size (Nat.le_refl _)
  have c_w20 := b_w2.out.at0 b_w2.out.lt_size (Nat.le_refl _)
  have c_w21 := b_w2.out.at1 b_w2.out.lt_size (Nat.le_refl _)
  have c_w22 := b_w2.out.at2 b_w2.out.lt_size (Nat.le_refl _)
  have c_x0 := b_x.out.at0 b_x.out.lt_size (Nat.le_refl _)
  have c_x1 := b_x.out.at1 b_x.out.lt_size (Nat.le_refl _)
  have c_x2 := b_x.out.at2 b_x.out.lt_size (Nat.le_refl _)
  go_loopw [16] (fun i wr => ∃ k : Nat, 1 ≤ k ∧ k ≤ 8 ∧ i = .int .i64 (k : Int) ∧ Below V12.heap.size V12 wr) (fun i _ => 8 - (intOf i).toNat)
  case atStart => exact ⟨1, by omega, by omega, rfl, Below.refl _ _⟩
  case round =>
    obtain ⟨k, hk1, hk8, rfl, hbk⟩ := hrel
    replace R_d := hide (Rd.then_ R_d.out hbk)
    replace R_a := hide (Rd.then_ R_a.out hbk)
    replace R_ad := hide (Rd.then_ R_ad.out hbk)
    replace R_v := hide (Rd.then_ R_v.out hbk)
    replace R_vd := hide (Rd.then_ R_vd.out hbk)
    replace R_c := hide (Rd.then_ R_c.out hbk)
    replace R_w2 := hide (Rd.then_ R_w2.out hbk)
    replace R_w2d := hide (Rd.then_ R_w2d.out hbk)
    replace R_x := hide (Rd.then_ R_x.out hbk)
    have U15 : Below V12.heap.size V12 wr := Below.then_ U14 hbk
    replace B := hide (Below.then_ B.out hbk)
    have L := hide hbk
    clear hbk
    by_cases hk : k ≤ 7
    · have e7 : decide ((k : Int) ≤ 7) = true := decide_eq_true (by omega)
      have l1 : (1 : Int) ≤ (k : Int) := by omega
      replace l1 := hide l1
      have l7 : (k : Int) ≤ 7 := by omega
      replace l7 := hide l7
      go_wp2_with fail
      refine (prescale_any R_x.out bz.out (Nat.le_refl _) rfl h9.out h9.out l1.out l7.out e_y.out rfl (e_r.out _)).mono ?_
      rintro e w7 ⟨A_y, c_y, rfl, R_y, hb⟩
      replace R_d := hide (Rd.then_ R_d.out hb)
      replace R_a := hide (Rd.then_ R_a.out hb)
      replace R_ad := hide (Rd.then_ R_ad.out hb)
      replace R_v := hide (Rd.then_ R_v.out hb)
      replace R_vd := hide (Rd.then_ R_vd.out hb)
      replace R_c := hide (Rd.then_ R_c.out hb)
      replace R_w2 := hide (Rd.then_ R_w2.out hb)
      replace R_w2d := hide (Rd.then_ R_w2d.out hb)
      replace R_x := hide (Rd.then_ R_x.out hb)
      have U16 : Below V12.heap.size V12 w7 := Below.then_ U15 hb
      replace B := hide (Below.then_ B.out hb)
      replace L := hide (Below.then_ L.out hb)
      replace R_y := hide R_y
      clear hb
      have hbx : Below w7.heap.size w7 (w7.alloc (.cells #[.bool (zneg z), .slice A_y (dig (zmag z)).length c_y, .int .i64 (p : Int)] 29)) := ((Below.refl _ _).alloc (Nat.le_refl _) _)
      have Ux := Below.then_ U16 hbx
      go_wp2_with fail
      obtain ⟨V16, hV⟩ : ∃ V, V = (w7.alloc (.cells #[.bool (zneg z), .slice A_y (dig (zmag z)).length c_y, .int .i64 (p : Int)] 29)) := ⟨_, rfl⟩
      obtain ⟨g_y, hg_y⟩ : ∃ g, g = w7.heap.size := ⟨_, rfl⟩
      rw [← hV]
      rw [← hV] at hbx Ux
      rw [← hg_y]
      have b_y : BoxD V16 g_y (.bool (zneg z)) (.slice A_y (dig (zmag z)).length c_y) (.int .i64 (p : Int)) := by rw [hV]; exact (BoxD.new _ _ _ _ hg_y)
      clear hV
      have ne_d_y : w.heap.size ≠ g_y := by have := (b_d.out.lt b_d.out.lt_size (Nat.le_refl _)) _ U16; omega
      replace ne_d_y := hide ne_d_y
      have ne_a_y : w.heap.size + 1 ≠ g_y := by have := (b_a.out.lt b_a.out.lt_size (Nat.le_refl _)) _ U16; omega
      replace ne_a_y := hide ne_a_y
      have ne_v_y : g_v ≠ g_y := by have := (b_v.out.lt b_v.out.lt_size (Nat.le_refl _)) _ U16; omega
      replace ne_v_y := hide ne_v_y
      have ne_c_y : g_c ≠ g_y := by have := (b_c.out.lt b_c.out.lt_size (Nat.le_refl _)) _ U16; omega
      replace ne_c_y := hide ne_c_y
      have ne_w2_y : g_w2 ≠ g_y := by have := (b_w2.out.lt b_w2.out.lt_size (Nat.le_refl _)) _ U16; omega
      replace ne_w2_y := hide ne_w2_y
      have ne_x_y : g_x ≠ g_y := by have := (b_x.out.lt b_x.out.lt_size (Nat.le_refl _)) _ U16; omega
      replace ne_x_y := hide ne_x_y
      have ge_y : w.heap.size ≤ g_y := by have := B.out.size; omega
      replace ge_y := hide ge_y
      clear hg_y
      replace R_d := hide (Rd.then_ R_d.out hbx)
      replace R_a := hide (Rd.then_ R_a.out hbx)
      replace R_ad := hide (Rd.then_ R_ad.out hbx)
      replace R_v := hide (Rd.then_ R_v.out hbx)
      replace R_vd := hide (Rd.then_ R_vd.out hbx)
      replace R_c := hide (Rd.then_ R_c.out hbx)
      replace R_w2 := hide (Rd.then_ R_w2.out hbx)
      replace R_w2d := hide (Rd.then_ R_w2d.out hbx)
      replace R_x := hide (Rd.then_ R_x.out hbx)
      replace R_y := hide (Rd.then_ R_y.out hbx)
      have U17 : Below V12.heap.size V12 V16 := Below.then_ U16 hbx
      replace B := hide (Below.then_ B.out hbx)
      replace L := hide (Below.then_ L.out hbx)
      clear hbx
      replace b_d := hide (BoxD.keep b_d.out U17)
      clear c_d0 c_d1 c_d2
      replace b_a := hide (Box3.keep b_a.out U17)
      clear c_a0 c_a1 c_a2
      replace b_v := hide (Box3.keep b_v.out U17)
      clear c_v0 c_v1 c_v2
      replace b_c := hide (BoxD.keep b_c.out U17)
      clear c_c0 c_c1 c_c2
      replace b_w2 := hide (Box3.keep b_w2.out U17)
      clear c_w20 c_w21 c_w22
      replace b_x := hide (BoxD.keep b_x.out U17)
      clear c_x0 c_x1 c_x2
      replace b_y := hide b_y
      have U18 : Below V16.heap.size V16 V16 := Below.refl _ _
      have c_d0 := b_d.out.at0 b_d.out.lt_size (Nat.le_refl _)
      have c_d1 := b_d.out.at1 b_d.out.lt_size (Nat.le_refl _)
      have c_d2 := b_d.out.at2 b_d.out.lt_size (Nat.le_refl _)
      have c_a0 := b_a.out.at0 b_a.out.lt_size (Nat.le_refl _)
      have c_a1 := b_a.out.at1 b_a.out.lt_size (Nat.le_refl _)
      have c_a2 := b_a.out.at2 b_a.out.lt_size (Nat.le_refl _)
      have c_v0 := b_v.out.at0 b_v.out.lt_size (Nat.le_refl _)
      have c_v1 := b_v.out.at1 b_v.out.lt_size (Nat.le_refl _)
      have c_v2 := b_v.out.at2 b_v.out.lt_size (Nat.le_refl _)
      have c_c0 := b_c.out.at0 b_c.out.lt_size (Nat.le_refl _)
      have c_c1 := b_c.out.at1 b_c.out.lt_size (Nat.le_refl _)
      have c_c2 := b_c.out.at2 b_c.out.lt_size (Nat.le_refl _)
      have c_w20 := b_w2.out.at0 b_w2.out.lt_size (Nat.le_refl _)
      have c_w21 := b_w2.out.at1 b_w2.out.lt_size (Nat.le_refl _)
      have c_w22 := b_w2.out.at2 b_w2.out.lt_size (Nat.le_refl _)
      have c_x0 := b_x.out.at0 b_x.out.lt_size (Nat.le_refl _)
      have c_x1 := b_x.out.at1 b_x.out.lt_size (Nat.le_refl _)
      have c_x2 := b_x.out.at2 b_x.out.lt_size (Nat.le_refl _)
      have c_y0 := b_y.out.at0 b_y.out.lt_size (Nat.le_refl _)
      have c_y1 := b_y.out.at1 b_y.out.lt_size (Nat.le_refl _)
      have c_y2 := b_y.out.at2 b_y.out.lt_size (Nat.le_refl _)
      refine (samedec_any R_x.out R_y.out (Nat.le_refl _)).mono ?_
      rintro e w8 ⟨rfl, hb⟩
      replace R_d := hide (Rd.then_ R_d.out hb)
      replace R_a := hide (Rd.then_ R_a.out hb)
      replace R_ad := hide (Rd.then_ R_ad.out hb)
      replace R_v := hide (Rd.then_ R_v.out hb)
      replace R_vd := hide (Rd.then_ R_vd.out hb)
      replace R_c := hide (Rd.then_ R_c.out hb)
      replace R_w2 := hide (Rd.then_ R_w2.out hb)
      replace R_w2d := hide (Rd.then_ R_w2d.out hb)
      replace R_x := hide (Rd.then_ R_x.out hb)
      replace R_y := hide (Rd.then_ R_y.out hb)
      have U19 : Below V16.heap.size V16 w8 := Below.then_ U18 hb
      replace B := hide (Below.then_ B.out hb)
      replace L := hide (Below.then_ L.out hb)
      clear hb
      go_wp2
      go_round
      case rel => exact ⟨k + 1, by omega, by omega, by go_num, L.out⟩
      case measure => simp [intOf]; omega
    · have e7 : decide ((k : Int) ≤ 7) = false := decide_eq_false (by omega)
      go_wp2_with fail
      refine (awake_any).mono ?_
      rintro e w27 ⟨rfl, hb⟩
      replace R_d := hide (Rd.then_ R_d.out hb)
      replace R_a := hide (Rd.then_ R_a.out hb)
      replace R_ad := hide (Rd.then_ R_ad.out hb)
      replace R_v := hide (Rd.then_ R_v.out hb)
      replace R_vd := hide (Rd.then_ R_vd.out hb)
      replace R_c := hide (Rd.then_ R_c.out hb)
      replace R_w2 := hide (Rd.then_ R_w2.out hb)
      replace R_w2d := hide (Rd.then_ R_w2d.out hb)
      replace R_x := hide (Rd.then_ R_x.out hb)
      have U56 : Below V12.heap.size V12 w27 := Below.then_ U15 hb
      replace B := hide (Below.then_ B.out hb)
      clear hb
      go_wp2
      go_ret
      exact ⟨rfl, B.out⟩

theorem keep_all {w : World} {A_d : Option Addr} {n_d c_d : Nat} {x_d : List Nat} {s_d : Bool} {p_d : Int} {A_a : Option Addr} {n_a c_a : Nat} {x_a : List Nat} {s_a : Bool} {A_ad : Option Addr} {n_ad c_ad : Nat} {x_ad : List Nat} (h_d : Rd w w.heap.size A_d n_d c_d x_d) (g_d : n_d ≤ 10000000) (h_a : Rd w w.heap.size A_a n_a c_a x_a) (g_a : n_a ≤ 10000000) (h_ad : Rd w w.heap.size A_ad n_ad c_ad x_ad) (g_ad : n_ad ≤ 10000000) {p m : Int} :
    Calls Tryz.prog 6 #[.agg #[.bool s_d, .slice A_d n_d c_d, .int .i64 p_d], .agg #[.bool s_a, .slice A_a n_a c_a, .slice A_ad n_ad c_ad], .int .i64 p, .int .i64 m] w (RetB w (.bool true)) := by
  by_cases h : okd p m
  · obtain ⟨n, rfl⟩ : ∃ n : Nat, p = (n : Int) := ⟨p.toNat, by have := h.1; omega⟩
    have h9 : n ≤ 9 := by have := h.2.1; omega
    by_cases hp : 0 ≤ p_d ∧ p_d ≤ 9
    · obtain ⟨o, rfl⟩ : ∃ o : Nat, p_d = (o : Int) := ⟨p_d.toNat, by omega⟩
      by_cases ho : o ≤ n
      · exact keep_more h_d g_d h_a g_a h_ad g_ad (Nat.le_refl _) h9 h.2.2.1 h.2.2.2 rfl (by omega) ho
      · exact keep_less h_d g_d h_a g_a h_ad g_ad (Nat.le_refl _) h9 h.2.2.1 h.2.2.2 rfl (by omega) (by omega)
    · exact keep_err h_d g_d h_a g_a h_ad g_ad (Nat.le_refl _) h9 h.2.2.1 h.2.2.2 hp
  · exact keep_bad h_d g_d h_a g_a h_ad g_ad (Nat.le_refl _) h

end Go.Proofs.YtdlmfembnmomjaaGreatDoor
