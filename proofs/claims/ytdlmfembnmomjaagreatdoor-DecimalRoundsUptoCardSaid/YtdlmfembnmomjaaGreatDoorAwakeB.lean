/-
  Awake4a, Awake4.
-/
import Derived.Test.YtdlmfembnmomjaaGreatDoorDecC
import Derived.Test.YtdlmfembnmomjaaGreatDoorLaw3s
namespace Go.Proofs.YtdlmfembnmomjaaGreatDoor
section
open Go.RowKit


theorem val_1 (x : Nat) : val [x] = x := by rw [val_cons, val_nil]; omega
theorem RetRat.al {w w' : World} {q : Rat} {e : Ending} (h : RetRat w q e w') (o : Obj) : RetRat w q e (w'.alloc o) := by
  obtain ⟨A, c, B, d, rfl, R, R', hb⟩ := h
  exact ⟨A, c, B, d, rfl, R.al_, R'.al_, Below.al_ hb _⟩

set_option maxHeartbeats 4000000 in
theorem valid_yes {w : World} {p : Int} {m : Int}  (h0 : 0 ≤ p) (h9 : p ≤ 9) (h1 : 1 ≤ m) (h7 : m ≤ 7) :
    Calls Tryz.prog 16 #[.int .i64 p, .int .i64 m] w (RetB w (.bool true)) := by
  have e0 : decide ((0 : Int) ≤ p) = true := decide_eq_true h0
  have e9 : decide (p ≤ (9 : Int)) = true := decide_eq_true h9
  have e1 : decide ((1 : Int) ≤ m) = true := decide_eq_true h1
  have e7 : decide (m ≤ (7 : Int)) = true := decide_eq_true h7
  clear h0 h9 h1 h7
  have B := hide (Below.refl w.heap.size w)
  have U0 : Below w.heap.size w w := Below.refl _ _
  go_enter Tryz.func16, Tryz.ntmps16
  go_wp2_with fail
  go_wp2
  go_ret
  exact ⟨rfl, B.out⟩

set_option maxHeartbeats 4000000 in
theorem valid_0 {w : World} {p : Int} {m : Int}  (h : p < 0) :
    Calls Tryz.prog 16 #[.int .i64 p, .int .i64 m] w (RetB w (.bool false)) := by
  have e : decide ((0 : Int) ≤ p) = false := decide_eq_false (by omega)
  clear h 
  have B := hide (Below.refl w.heap.size w)
  have U0 : Below w.heap.size w w := Below.refl _ _
  go_enter Tryz.func16, Tryz.ntmps16
  go_wp2_with fail
  go_wp2
  go_ret
  exact ⟨rfl, B.out⟩

set_option maxHeartbeats 4000000 in
theorem valid_9 {w : World} {p : Int} {m : Int}  (g0 : 0 ≤ p) (h : 9 < p) :
    Calls Tryz.prog 16 #[.int .i64 p, .int .i64 m] w (RetB w (.bool false)) := by
  have e0 : decide ((0 : Int) ≤ p) = true := decide_eq_true g0
  have e : decide (p ≤ (9 : Int)) = false := decide_eq_false (by omega)
  clear h g0
  have B := hide (Below.refl w.heap.size w)
  have U0 : Below w.heap.size w w := Below.refl _ _
  go_enter Tryz.func16, Tryz.ntmps16
  go_wp2_with fail
  go_wp2
  go_ret
  exact ⟨rfl, B.out⟩

set_option maxHeartbeats 4000000 in
theorem valid_1 {w : World} {p : Int} {m : Int}  (g0 : 0 ≤ p) (g1 : p ≤ 9) (h : m < 1) :
    Calls Tryz.prog 16 #[.int .i64 p, .int .i64 m] w (RetB w (.bool false)) := by
  have e0 : decide ((0 : Int) ≤ p) = true := decide_eq_true g0
  have e1 : decide (p ≤ (9 : Int)) = true := decide_eq_true g1
  have e : decide ((1 : Int) ≤ m) = false := decide_eq_false (by omega)
  clear h g0 g1
  have B := hide (Below.refl w.heap.size w)
  have U0 : Below w.heap.size w w := Below.refl _ _
  go_enter Tryz.func16, Tryz.ntmps16
  go_wp2_with fail
  go_wp2
  go_ret
  exact ⟨rfl, B.out⟩

set_option maxHeartbeats 4000000 in
theorem valid_7 {w : World} {p : Int} {m : Int}  (g0 : 0 ≤ p) (g1 : p ≤ 9) (g2 : 1 ≤ m) (h : 7 < m) :
    Calls Tryz.prog 16 #[.int .i64 p, .int .i64 m] w (RetB w (.bool false)) := by
  have e0 : decide ((0 : Int) ≤ p) = true := decide_eq_true g0
  have e1 : decide (p ≤ (9 : Int)) = true := decide_eq_true g1
  have e2 : decide ((1 : Int) ≤ m) = true := decide_eq_true g2
  have e : decide (m ≤ (7 : Int)) = false := decide_eq_false (by omega)
  clear h g0 g1 g2
  have B := hide (Below.refl w.heap.size w)
  have U0 : Below w.heap.size w w := Below.refl _ _
  go_enter Tryz.func16, Tryz.ntmps16
  go_wp2_with fail
  go_wp2
  go_ret
  exact ⟨rfl, B.out⟩

theorem valid_no {w : World} {p m : Int} (h : ¬ (0 ≤ p ∧ p ≤ 9 ∧ 1 ≤ m ∧ m ≤ 7)) : Calls Tryz.prog 16 #[.int .i64 p, .int .i64 m] w (RetB w (.bool false)) := by
  by_cases h0 : 0 ≤ p
  · by_cases h9 : p ≤ 9
    · by_cases h1 : 1 ≤ m
      · exact valid_7 h0 h9 h1 (by omega)
      · exact valid_1 h0 h9 (by omega)
    · exact valid_9 h0 (by omega)
  · exact valid_0 (by omega)

set_option maxHeartbeats 4000000 in
theorem unit_any {w : World} {p : Nat} {u : Int}  {d : Nat} {y : Rat} (h9 : p ≤ 9) (hu : u = (d : Int)) (hd : d = 1 ∨ d = 2) (hy : mkRat 1 (10 ^ p) / mkRat (d : Int) 1 = y) :
    Calls Tryz.prog 21 #[.int .i64 (p : Int), .int .u32 u] w (RetRat w y) := by
  obtain ⟨q, e_q⟩ : ∃ new, mkRat 1 (10 ^ p) = new := ⟨_, rfl⟩
  replace e_q := hide e_q
  have sq : (dig (zmag q.num)).length ≤ 1 ∧ (dig q.den).length ≤ 1 := by rw [← e_q.out]; exact sz_mk (by decide) (Nat.lt_of_le_of_lt (Nat.pow_le_pow_right (by omega) h9) (by decide)) (by omega)
  have s_q : (dig (zmag q.num)).length ≤ 1000000000 ∧ (dig q.den).length ≤ 1000000000 := by omega
  replace s_q := hide s_q
  rw [e_q.out] at hy
  have vd : val [d] = d := val_1 d
  have e_y : qv (zneg q.num) (val (dig (zmag q.num))) (val (dig q.den)) / qv false (val [d]) (val [1]) = y := by rw [qv_eta, vd]; exact hy
  replace e_y := hide e_y
  have e_ok : decide (qv false (val [d]) (val [1]) ≠ 0) = true := by rcases hd with rfl | rfl <;> decide +kernel
  replace e_ok := hide e_ok
  have hd2 : d < 4294967296 := by omega
  replace hd2 := hide hd2
  have e_q2 : mkRat (iv false (val [1])) (10 ^ p) = q := e_q.out
  replace e_q2 := hide e_q2
  clear sq hy hd vd
  replace h9 := hide h9
  replace hu := hide hu
  obtain ⟨W, hW⟩ : ∃ W, W = (w.alloc (.cells #[.bool false, .slice none 0 0, .slice none 0 0] 27)) := ⟨_, rfl⟩
  have b_r0 : Box3 W (w.heap.size) (.bool false) (.slice none 0 0) (.slice none 0 0) := by rw [hW]; exact (Box3.new w _ _ _ rfl)
  have hwW : Below w.heap.size w W := by rw [hW]; exact ((Below.refl _ _).alloc (Nat.le_refl _) _)
  have B := hide hwW
  clear hwW
  have U0 : Below W.heap.size W W := Below.refl _ _
  have c_r00 := b_r0.at0 b_r0.lt_size (Nat.le_refl _)
  have c_r01 := b_r0.at1 b_r0.lt_size (Nat.le_refl _)
  have c_r02 := b_r0.at2 b_r0.lt_size (Nat.le_refl _)
  have f_r00 := b_r0.free0 b_r0.lt_size (Nat.le_refl _)
  have f_r01 := b_r0.free1 b_r0.lt_size (Nat.le_refl _)
  have f_r02 := b_r0.free2 b_r0.lt_size (Nat.le_refl _)
  have l_r0 := b_r0.lt b_r0.lt_size (Nat.le_refl _)
  replace b_r0 := hide b_r0
  have hWs : W.heap.size = w.heap.size + 1 := by rw [hW]; simp
  replace hWs := hide hWs
  go_enter Tryz.func21, Tryz.ntmps21
  go_wp2_with fail
  rw [← hW]
  clear hW
  have hbx : Below W.heap.size W (W.alloc (.cells #[.int .u32 1] 46)) := ((Below.refl _ _).alloc (Nat.le_refl _) _)
  go_wp2_with fail
  obtain ⟨V0, hV⟩ : ∃ V, V = (W.alloc (.cells #[.int .u32 1] 46)) := ⟨_, rfl⟩
  obtain ⟨g_a, hg_a⟩ : ∃ g, g = w.heap.size + 1 := ⟨_, rfl⟩
  rw [← hV]
  rw [← hV] at hbx
  rw [← hg_a]
  have R_a : Rd V0 V0.heap.size (some ⟨g_a, 0, none⟩) 1 1 [1] := by rw [hV]; exact (Rd.limb1 _ (by rw [hg_a, hWs.out]) (by omega) rfl)
  replace R_a := hide R_a
  clear hV hg_a
  have U1 : Below W.heap.size W V0 := Below.then_ U0 hbx
  replace B := hide (Below.then_ B.out hbx)
  clear hbx
  refine (pvalue_ok (s_d := false) R_a.out (by omega) (Nat.le_refl _) rfl h9.out e_q2.out).mono ?_
  rintro e w1 ⟨A_q, c_q, A_qd, c_qd, rfl, R_q, R_qd, hb⟩
  replace R_a := hide (Rd.then_ R_a.out hb)
  have U2 : Below W.heap.size W w1 := Below.then_ U1 hb
  replace B := hide (Below.then_ B.out hb)
  replace R_q := hide R_q
  replace R_qd := hide R_qd
  clear hb
  have hbx : Below w1.heap.size w1 (((w1.alloc (.cells #[.bool (zneg q.num), .slice A_q (dig (zmag q.num)).length c_q, .slice A_qd (dig q.den).length c_qd] 27)).alloc (.cells #[.int .u32 u] 46)).alloc (.cells #[.int .u32 1] 46)) := ((((Below.refl _ _).alloc (Nat.le_refl _) _).alloc (by simp) _).alloc (by simp; omega) _)
  have Ux := Below.then_ U2 hbx
  go_wp2_with fail
  obtain ⟨V2, hV⟩ : ∃ V, V = (((w1.alloc (.cells #[.bool (zneg q.num), .slice A_q (dig (zmag q.num)).length c_q, .slice A_qd (dig q.den).length c_qd] 27)).alloc (.cells #[.int .u32 u] 46)).alloc (.cells #[.int .u32 1] 46)) := ⟨_, rfl⟩
  obtain ⟨g_q, hg_q⟩ : ∃ g, g = w1.heap.size := ⟨_, rfl⟩
  obtain ⟨g_b, hg_b⟩ : ∃ g, g = w1.heap.size + 1 := ⟨_, rfl⟩
  obtain ⟨g_c, hg_c⟩ : ∃ g, g = w1.heap.size + 1 + 1 := ⟨_, rfl⟩
  rw [← hV]
  rw [← hV] at hbx Ux
  rw [← hg_c]
  rw [← hg_b]
  rw [← hg_q]
  have b_q : Box3 V2 g_q (.bool (zneg q.num)) (.slice A_q (dig (zmag q.num)).length c_q) (.slice A_qd (dig q.den).length c_qd) := by rw [hV]; exact (((Box3.new _ _ _ _ hg_q).al _).al _)
  have R_b : Rd V2 V2.heap.size (some ⟨g_b, 0, none⟩) 1 1 [d] := by rw [hV]; exact (Rd.al_ (Rd.limb1 _ (by rw [hg_b]; simp) hd2.out hu.out))
  replace R_b := hide R_b
  have R_c : Rd V2 V2.heap.size (some ⟨g_c, 0, none⟩) 1 1 [1] := by rw [hV]; exact (Rd.limb1 _ (by rw [hg_c]; simp) (by omega) rfl)
  replace R_c := hide R_c
  clear hV hg_b hg_c
  have ne_q_r0 : g_q ≠ w.heap.size := by have := l_r0 _ U2; omega
  replace ne_q_r0 := hide ne_q_r0
  have ne_r0_q := hide (Ne.symm ne_q_r0.out)
  have ge_q : w.heap.size ≤ g_q := by have := B.out.size; omega
  replace ge_q := hide ge_q
  clear hg_q
  replace R_a := hide (Rd.then_ R_a.out hbx)
  replace R_q := hide (Rd.then_ R_q.out hbx)
  replace R_qd := hide (Rd.then_ R_qd.out hbx)
  have U3 : Below W.heap.size W V2 := Below.then_ U2 hbx
  replace B := hide (Below.then_ B.out hbx)
  clear hbx
  replace b_r0 := hide (Box3.keep b_r0.out U3)
  clear c_r00 c_r01 c_r02 f_r00 f_r01 f_r02 l_r0
  replace b_q := hide b_q
  have U4 : Below V2.heap.size V2 V2 := Below.refl _ _
  have c_r00 := b_r0.out.at0 b_r0.out.lt_size (Nat.le_refl _)
  have c_r01 := b_r0.out.at1 b_r0.out.lt_size (Nat.le_refl _)
  have c_r02 := b_r0.out.at2 b_r0.out.lt_size (Nat.le_refl _)
  have f_r00 := b_r0.out.free0 b_r0.out.lt_size (Nat.le_refl _)
  have f_r01 := b_r0.out.free1 b_r0.out.lt_size (Nat.le_refl _)
  have f_r02 := b_r0.out.free2 b_r0.out.lt_size (Nat.le_refl _)
  have l_r0 := b_r0.out.lt b_r0.out.lt_size (Nat.le_refl _)
  have c_q0 := b_q.out.at0 b_q.out.lt_size (Nat.le_refl _)
  have c_q1 := b_q.out.at1 b_q.out.lt_size (Nat.le_refl _)
  have c_q2 := b_q.out.at2 b_q.out.lt_size (Nat.le_refl _)
  refine (pdiv_any (s_b := false) R_q.out s_q.out.1 R_qd.out s_q.out.2 R_b.out (by omega) R_c.out (by omega) (Nat.le_refl _) e_y.out e_ok.out).mono ?_
  rintro e w2 ⟨A_y, c_y, A_yd, c_yd, rfl, R_y, R_yd, hb⟩
  replace R_a := hide (Rd.then_ R_a.out hb)
  replace R_q := hide (Rd.then_ R_q.out hb)
  replace R_qd := hide (Rd.then_ R_qd.out hb)
  replace R_b := hide (Rd.then_ R_b.out hb)
  replace R_c := hide (Rd.then_ R_c.out hb)
  have U5 : Below V2.heap.size V2 w2 := Below.then_ U4 hb
  replace B := hide (Below.then_ B.out hb)
  replace R_y := hide R_y
  replace R_yd := hide R_yd
  clear hb
  go_wp2
  exact bodyPost_ret (v := .agg #[.bool (zneg y.num), .slice A_y (dig (zmag y.num)).length c_y, .slice A_yd (dig y.den).length c_yd]) (by simp [results, Tryz.results21, go_sem, c_r00 _ U5, c_r01 _ U5, c_r02 _ U5, l_r0 _ U5]) rfl (RetRat.al (RetRat.box B.out (by omega) (c_r00 _ U5) (c_r01 _ U5) (c_r02 _ U5) R_y.out R_yd.out) _)

set_option maxHeartbeats 4000000 in
theorem rounds_any {w : World} {u v : Int} {s : Bool} {i : Int} {m : Int} {t : ByteArray}  {n d p : Nat} {x : Rat} {z : Int} (hu : u = (n : Int)) (hv : v = (d : Int)) (hi : i = (p : Int)) (hn : n < 4294967296) (hd : d < 4294967296) (h9 : p ≤ 9) (h1 : 1 ≤ m) (h7 : m ≤ 7) (hx : qv s n d * ((10 ^ p : Nat) : Rat) = x) (hz : rnd m x = z) (lz : (dig (zmag z)).length ≤ 1000000000) (ht : dstr z p = t) :
    Calls Tryz.prog 50 #[.int .u32 u, .int .u32 v, .bool s, .int .i64 i, .int .i64 m, .string t] w (RetB w (.bool true)) := by
  subst hi
  have hx2 : qv s (val [n]) (val [d]) * ((10 ^ p : Nat) : Rat) = x := by rw [val_1, val_1]; exact hx
  clear hx
  replace hu := hide hu
  replace hv := hide hv
  replace hn := hide hn
  replace hd := hide hd
  replace h9 := hide h9
  replace h1 := hide h1
  replace h7 := hide h7
  replace hx2 := hide hx2
  replace hz := hide hz
  replace lz := hide lz
  replace ht := hide ht
  have B := hide (Below.refl w.heap.size w)
  have U0 : Below w.heap.size w w := Below.refl _ _
  go_enter Tryz.func50, Tryz.ntmps50
  go_wp2_with fail
  have hbx : Below w.heap.size w ((w.alloc (.cells #[.int .u32 u] 46)).alloc (.cells #[.int .u32 v] 46)) := (((Below.refl _ _).alloc (Nat.le_refl _) _).alloc (by simp) _)
  go_wp2_with fail
  obtain ⟨V0, hV⟩ : ∃ V, V = ((w.alloc (.cells #[.int .u32 u] 46)).alloc (.cells #[.int .u32 v] 46)) := ⟨_, rfl⟩
  obtain ⟨g_n, hg_n⟩ : ∃ g, g = w.heap.size := ⟨_, rfl⟩
  obtain ⟨g_d, hg_d⟩ : ∃ g, g = w.heap.size + 1 := ⟨_, rfl⟩
  rw [← hV]
  rw [← hV] at hbx
  rw [← hg_d]
  rw [← hg_n]
  have R_n : Rd V0 V0.heap.size (some ⟨g_n, 0, none⟩) 1 1 [n] := by rw [hV]; exact (Rd.al_ (Rd.limb1 _ hg_n hn.out hu.out))
  replace R_n := hide R_n
  have R_d : Rd V0 V0.heap.size (some ⟨g_d, 0, none⟩) 1 1 [d] := by rw [hV]; exact (Rd.limb1 _ (by rw [hg_d]; simp) hd.out hv.out)
  replace R_d := hide R_d
  clear hV hg_n hg_d
  have U1 : Below w.heap.size w V0 := Below.then_ U0 hbx
  replace B := hide (Below.then_ B.out hbx)
  clear hbx
  refine (pround_any (s_a := s) R_n.out (by omega) R_d.out (by omega) (Nat.le_refl _) h9.out h1.out h7.out hx2.out hz.out).mono ?_
  rintro e w1 ⟨A_z, c_z, rfl, R_z, hb⟩
  replace R_n := hide (Rd.then_ R_n.out hb)
  replace R_d := hide (Rd.then_ R_d.out hb)
  have U2 : Below w.heap.size w w1 := Below.then_ U1 hb
  replace B := hide (Below.then_ B.out hb)
  replace R_z := hide R_z
  clear hb
  have hbx : Below w1.heap.size w1 (w1.alloc (.cells #[.bool (zneg z), .slice A_z (dig (zmag z)).length c_z, .int .i64 (p : Int)] 29)) := ((Below.refl _ _).alloc (Nat.le_refl _) _)
  have Ux := Below.then_ U2 hbx
  go_wp2_with fail
  obtain ⟨V2, hV⟩ : ∃ V, V = (w1.alloc (.cells #[.bool (zneg z), .slice A_z (dig (zmag z)).length c_z, .int .i64 (p : Int)] 29)) := ⟨_, rfl⟩
  obtain ⟨g_z, hg_z⟩ : ∃ g, g = w1.heap.size := ⟨_, rfl⟩
  rw [← hV]
  rw [← hV] at hbx Ux
  rw [← hg_z]
  have b_z : BoxD V2 g_z (.bool (zneg z)) (.slice A_z (dig (zmag z)).length c_z) (.int .i64 (p : Int)) := by rw [hV]; exact (BoxD.new _ _ _ _ hg_z)
  clear hV
  have ge_z : w.heap.size ≤ g_z := by have := B.out.size; omega
  replace ge_z := hide ge_z
  clear hg_z
  replace R_n := hide (Rd.then_ R_n.out hbx)
  replace R_d := hide (Rd.then_ R_d.out hbx)
  replace R_z := hide (Rd.then_ R_z.out hbx)
  have U3 : Below w.heap.size w V2 := Below.then_ U2 hbx
  replace B := hide (Below.then_ B.out hbx)
  clear hbx
  replace b_z := hide b_z
  have U4 : Below V2.heap.size V2 V2 := Below.refl _ _
  have c_z0 := b_z.out.at0 b_z.out.lt_size (Nat.le_refl _)
  have c_z1 := b_z.out.at1 b_z.out.lt_size (Nat.le_refl _)
  have c_z2 := b_z.out.at2 b_z.out.lt_size (Nat.le_refl _)
  have e_zz := ivz z
  replace e_zz := hide e_zz
  refine (dprint_any R_z.out lz.out (Nat.le_refl _) h9.out e_zz.out).mono ?_
  rw [ht.out]
  rintro e w2 ⟨rfl, hb⟩
  replace R_n := hide (Rd.then_ R_n.out hb)
  replace R_d := hide (Rd.then_ R_d.out hb)
  replace R_z := hide (Rd.then_ R_z.out hb)
  have U5 : Below V2.heap.size V2 w2 := Below.then_ U4 hb
  replace B := hide (Below.then_ B.out hb)
  clear hb
  go_wp2
  go_ret
  exact ⟨rfl, B.out⟩

theorem ex0_dec : dec (zmag (667)) = [54, 54, 55] := by simp [zmag, dec, ddig]
theorem ex0_str : dstr (667) 3 = ⟨#[48, 46, 54, 54, 55]⟩ := by
  unfold dstr dlist dgl
  rw [ex0_dec]
  kernel_rfl
theorem ex0_len : (dig (zmag (667))).length ≤ 1000000000 := by
  have h := (dig_len_le (zmag (667)) 1).2 (by decide)
  omega
theorem ex0 (w : World) : Calls Tryz.prog 50 #[.int .u32 2, .int .u32 3, .bool false, .int .i64 3, .int .i64 1, .string ⟨#[48, 46, 54, 54, 55]⟩] w (RetB w (.bool true)) :=
  rounds_any (n := 2) (d := 3) (p := 3) rfl rfl rfl (by omega) (by omega) (by omega) (by omega) (by omega) rfl (show rnd 1 (qv false 2 3 * ((10 ^ 3 : Nat) : Rat)) = 667 by decide +kernel) ex0_len ex0_str

theorem ex1_dec : dec (zmag (-667)) = [54, 54, 55] := by simp [zmag, dec, ddig]
theorem ex1_str : dstr (-667) 3 = ⟨#[45, 48, 46, 54, 54, 55]⟩ := by
  unfold dstr dlist dgl
  rw [ex1_dec]
  kernel_rfl
theorem ex1_len : (dig (zmag (-667))).length ≤ 1000000000 := by
  have h := (dig_len_le (zmag (-667)) 1).2 (by decide)
  omega
theorem ex1 (w : World) : Calls Tryz.prog 50 #[.int .u32 2, .int .u32 3, .bool true, .int .i64 3, .int .i64 6, .string ⟨#[45, 48, 46, 54, 54, 55]⟩] w (RetB w (.bool true)) :=
  rounds_any (n := 2) (d := 3) (p := 3) rfl rfl rfl (by omega) (by omega) (by omega) (by omega) (by omega) rfl (show rnd 6 (qv true 2 3 * ((10 ^ 3 : Nat) : Rat)) = -667 by decide +kernel) ex1_len ex1_str

theorem ex2_dec : dec (zmag (12)) = [49, 50] := by simp [zmag, dec, ddig]
theorem ex2_str : dstr (12) 2 = ⟨#[48, 46, 49, 50]⟩ := by
  unfold dstr dlist dgl
  rw [ex2_dec]
  kernel_rfl
theorem ex2_len : (dig (zmag (12))).length ≤ 1000000000 := by
  have h := (dig_len_le (zmag (12)) 1).2 (by decide)
  omega
theorem ex2 (w : World) : Calls Tryz.prog 50 #[.int .u32 1, .int .u32 8, .bool false, .int .i64 2, .int .i64 1, .string ⟨#[48, 46, 49, 50]⟩] w (RetB w (.bool true)) :=
  rounds_any (n := 1) (d := 8) (p := 2) rfl rfl rfl (by omega) (by omega) (by omega) (by omega) (by omega) rfl (show rnd 1 (qv false 1 8 * ((10 ^ 2 : Nat) : Rat)) = 12 by decide +kernel) ex2_len ex2_str

theorem ex3_dec : dec (zmag (13)) = [49, 51] := by simp [zmag, dec, ddig]
theorem ex3_str : dstr (13) 2 = ⟨#[48, 46, 49, 51]⟩ := by
  unfold dstr dlist dgl
  rw [ex3_dec]
  kernel_rfl
theorem ex3_len : (dig (zmag (13))).length ≤ 1000000000 := by
  have h := (dig_len_le (zmag (13)) 1).2 (by decide)
  omega
theorem ex3 (w : World) : Calls Tryz.prog 50 #[.int .u32 1, .int .u32 8, .bool false, .int .i64 2, .int .i64 2, .string ⟨#[48, 46, 49, 51]⟩] w (RetB w (.bool true)) :=
  rounds_any (n := 1) (d := 8) (p := 2) rfl rfl rfl (by omega) (by omega) (by omega) (by omega) (by omega) rfl (show rnd 2 (qv false 1 8 * ((10 ^ 2 : Nat) : Rat)) = 13 by decide +kernel) ex3_len ex3_str

theorem ex4_dec : dec (zmag (-2)) = [50] := by simp [zmag, dec, ddig]
theorem ex4_str : dstr (-2) 0 = ⟨#[45, 50]⟩ := by
  unfold dstr dlist dgl
  rw [ex4_dec]
  kernel_rfl
theorem ex4_len : (dig (zmag (-2))).length ≤ 1000000000 := by
  have h := (dig_len_le (zmag (-2)) 1).2 (by decide)
  omega
theorem ex4 (w : World) : Calls Tryz.prog 50 #[.int .u32 5, .int .u32 2, .bool true, .int .i64 0, .int .i64 3, .string ⟨#[45, 50]⟩] w (RetB w (.bool true)) :=
  rounds_any (n := 5) (d := 2) (p := 0) rfl rfl rfl (by omega) (by omega) (by omega) (by omega) (by omega) rfl (show rnd 3 (qv true 5 2 * ((10 ^ 0 : Nat) : Rat)) = -2 by decide +kernel) ex4_len ex4_str

theorem ex5_dec : dec (zmag (-3)) = [51] := by simp [zmag, dec, ddig]
theorem ex5_str : dstr (-3) 0 = ⟨#[45, 51]⟩ := by
  unfold dstr dlist dgl
  rw [ex5_dec]
  kernel_rfl
theorem ex5_len : (dig (zmag (-3))).length ≤ 1000000000 := by
  have h := (dig_len_le (zmag (-3)) 1).2 (by decide)
  omega
theorem ex5 (w : World) : Calls Tryz.prog 50 #[.int .u32 5, .int .u32 2, .bool true, .int .i64 0, .int .i64 4, .string ⟨#[45, 51]⟩] w (RetB w (.bool true)) :=
  rounds_any (n := 5) (d := 2) (p := 0) rfl rfl rfl (by omega) (by omega) (by omega) (by omega) (by omega) rfl (show rnd 4 (qv true 5 2 * ((10 ^ 0 : Nat) : Rat)) = -3 by decide +kernel) ex5_len ex5_str

theorem ex6_dec : dec (zmag (2)) = [50] := by simp [zmag, dec, ddig]
theorem ex6_str : dstr (2) 0 = ⟨#[50]⟩ := by
  unfold dstr dlist dgl
  rw [ex6_dec]
  kernel_rfl
theorem ex6_len : (dig (zmag (2))).length ≤ 1000000000 := by
  have h := (dig_len_le (zmag (2)) 1).2 (by decide)
  omega
theorem ex6 (w : World) : Calls Tryz.prog 50 #[.int .u32 5, .int .u32 2, .bool false, .int .i64 0, .int .i64 5, .string ⟨#[50]⟩] w (RetB w (.bool true)) :=
  rounds_any (n := 5) (d := 2) (p := 0) rfl rfl rfl (by omega) (by omega) (by omega) (by omega) (by omega) rfl (show rnd 5 (qv false 5 2 * ((10 ^ 0 : Nat) : Rat)) = 2 by decide +kernel) ex6_len ex6_str

theorem ex7_dec : dec (zmag (3)) = [51] := by simp [zmag, dec, ddig]
theorem ex7_str : dstr (3) 0 = ⟨#[51]⟩ := by
  unfold dstr dlist dgl
  rw [ex7_dec]
  kernel_rfl
theorem ex7_len : (dig (zmag (3))).length ≤ 1000000000 := by
  have h := (dig_len_le (zmag (3)) 1).2 (by decide)
  omega
theorem ex7 (w : World) : Calls Tryz.prog 50 #[.int .u32 7, .int .u32 3, .bool false, .int .i64 0, .int .i64 7, .string ⟨#[51]⟩] w (RetB w (.bool true)) :=
  rounds_any (n := 7) (d := 3) (p := 0) rfl rfl rfl (by omega) (by omega) (by omega) (by omega) (by omega) rfl (show rnd 7 (qv false 7 3 * ((10 ^ 0 : Nat) : Rat)) = 3 by decide +kernel) ex7_len ex7_str

theorem ex50_dec : dec (zmag (-50)) = [53, 48] := by simp [zmag, dec, ddig]
theorem ex50_str : dstr (-50) 2 = ⟨#[45, 48, 46, 53, 48]⟩ := by
  unfold dstr dlist dgl
  rw [ex50_dec]
  kernel_rfl
theorem ex50 (w : World) : Calls Tryz.prog 22 #[.string ⟨#[45, 48, 46, 53, 48]⟩] w (fun e w' => ∃ ad c, e = .returned (.tuple #[.agg #[.bool true, .slice (some ad) 1 c, .int .i64 2], .int .i64 0]) ∧ Rd w' w'.heap.size (some ad) 1 c [50] ∧ Below w.heap.size w w') := by
  have h := par_dstr (z := -50) (p := 2) (by omega) (by rw [ex50_str]; decide) w
  rw [ex50_str] at h
  refine h.mono fun e w' ⟨A, c, he, R, hb⟩ => ?_
  have e50 : dig (zmag (-50)) = [50] := by
    rw [show zmag (-50) = 50 from rfl, dig_pos (by omega), show 50 / 4294967296 = 0 from rfl, dig_zero]
  rw [e50] at he R
  obtain ⟨ad, rfl, _, _⟩ := R.at_ (k := 0) (by simp)
  exact ⟨ad, c, he, R, hb⟩
theorem ex00 (w : World) : Calls Tryz.prog 22 #[.string ⟨#[45, 48, 46, 48, 48]⟩] w (RetDec w 0 0 2) := by
  have hb : ∀ k, k < (⟨#[48]⟩ : ByteArray).size → 48 ≤ bt ⟨#[48]⟩ k ∧ bt ⟨#[48]⟩ k ≤ 57 := by decide
  have ha : ∀ k, k < (⟨#[48, 48]⟩ : ByteArray).size → 48 ≤ bt ⟨#[48, 48]⟩ k ∧ bt ⟨#[48, 48]⟩ k ≤ 57 := by decide
  have hu : ∀ k, k < (⟨#[48, 46, 48, 48]⟩ : ByteArray).size → bt ⟨#[48, 46, 48, 48]⟩ k = 48 ∨ bt ⟨#[48, 46, 48, 48]⟩ k = 46 := by decide
  have hd : DotAt ⟨#[48, 46, 48, 48]⟩ 1 := ⟨by decide, by decide, by decide⟩
  have hc := dotcut_any (dcut_hit (by decide) hd)
  rw [show (⟨#[48, 46, 48, 48]⟩ : ByteArray).extract 0 1 = ⟨#[48]⟩ by kernel_rfl, show (⟨#[48, 46, 48, 48]⟩ : ByteArray).extract (1 + 1) (⟨#[48, 46, 48, 48]⟩ : ByteArray).size = ⟨#[48, 48]⟩ by kernel_rfl] at hc
  exact dpC (k := 0) (cutp_yes (by decide) (by decide) (by decide) (by kernel_rfl)) hc rfl (fun w => parse_ok w ⟨#[48]⟩ ⟨hb, by decide, Or.inl (by decide)⟩ (by decide)) (fun _ => digits_any (by decide) ⟨fun _ => ⟨ha, by decide⟩, fun _ => rfl⟩) rfl (iszero_any (by decide) ⟨fun _ => hu, fun _ => rfl⟩) w
theorem qhalf : mkRat (iv true (val [50])) (10 ^ 2) = mkRat (-1) 2 := by decide +kernel
theorem qhalf_str : qstr (mkRat (-1) 2) = ⟨#[45, 49, 47, 50]⟩ := by
  have h1 : (mkRat (-1) 2).num = -1 := by decide +kernel
  have h2 : (mkRat (-1) 2).den = 2 := by decide +kernel
  rw [qstr_frac (by rw [h2]; decide), h1, h2]
  have h3 : zstr (-1) = ⟨#[45, 49]⟩ := by
    unfold zstr
    rw [if_pos (by decide), show dec (zmag (-1)) = [49] by simp [zmag, dec, ddig]]
    kernel_rfl
  have h4 : (⟨#[45, 49]⟩ : ByteArray) ++ (⟨#[47]⟩ : ByteArray) ++ strN [50] = ⟨#[45, 49, 47, 50]⟩ := by kernel_rfl
  rw [h3, show dec 2 = [50] by simp [dec, ddig]]
  exact h4
end

section
open Go.RowKit


set_option maxHeartbeats 4000000 in
theorem awake_any {w : World}    :
    Calls Tryz.prog 15 #[] w (RetB w (.bool true)) := by
  obtain ⟨q, e_q⟩ : ∃ new, mkRat (-1) 2 = new := ⟨_, rfl⟩
  replace e_q := hide e_q
  have e_v : mkRat (iv true (val [50])) (10 ^ 2) = q := by rw [qhalf]; exact e_q.out
  replace e_v := hide e_v
  have e_qs : qstr q = ⟨#[45, 49, 47, 50]⟩ := by rw [← e_q.out]; exact qhalf_str
  replace e_qs := hide e_qs
  have e_qq : qv (zneg q.num) (val (dig (zmag q.num))) (val (dig q.den)) = q := qv_eta q
  replace e_qq := hide e_qq
  have s_q : (dig (zmag q.num)).length ≤ 1000000000 ∧ (dig q.den).length ≤ 1000000000 := by have h := sz_mk (a := -1) (d := 2) (i := 1) (by decide) (by decide) (by omega); rw [e_q.out] at h; omega
  replace s_q := hide s_q
  have B := hide (Below.refl w.heap.size w)
  have U0 : Below w.heap.size w w := Below.refl _ _
  go_enter Tryz.func15, Tryz.ntmps15
  go_wp2_with fail
  refine (ex0 _).mono ?_
  rintro e w1 ⟨rfl, hb⟩
  have U1 : Below w.heap.size w w1 := Below.then_ U0 hb
  replace B := hide (Below.then_ B.out hb)
  clear hb
  go_wp2_with fail
  refine (ex1 _).mono ?_
  rintro e w2 ⟨rfl, hb⟩
  have U2 : Below w.heap.size w w2 := Below.then_ U1 hb
  replace B := hide (Below.then_ B.out hb)
  clear hb
  go_wp2_with fail
  refine (ex2 _).mono ?_
  rintro e w3 ⟨rfl, hb⟩
  have U3 : Below w.heap.size w w3 := Below.then_ U2 hb
  replace B := hide (Below.then_ B.out hb)
  clear hb
  go_wp2_with fail
  refine (ex3 _).mono ?_
  rintro e w4 ⟨rfl, hb⟩
  have U4 : Below w.heap.size w w4 := Below.then_ U3 hb
  replace B := hide (Below.then_ B.out hb)
  clear hb
  go_wp2_with fail
  refine (ex4 _).mono ?_
  rintro e w5 ⟨rfl, hb⟩
  have U5 : Below w.heap.size w w5 := Below.then_ U4 hb
  replace B := hide (Below.then_ B.out hb)
  clear hb
  go_wp2_with fail
  refine (ex5 _).mono ?_
  rintro e w6 ⟨rfl, hb⟩
  have U6 : Below w.heap.size w w6 := Below.then_ U5 hb
  replace B := hide (Below.then_ B.out hb)
  clear hb
  go_wp2_with fail
  refine (ex6 _).mono ?_
  rintro e w7 ⟨rfl, hb⟩
  have U7 : Below w.heap.size w w7 := Below.then_ U6 hb
  replace B := hide (Below.then_ B.out hb)
  clear hb
  go_wp2_with fail
  refine (ex7 _).mono ?_
  rintro e w8 ⟨rfl, hb⟩
  have U8 : Below w.heap.size w w8 := Below.then_ U7 hb
  replace B := hide (Below.then_ B.out hb)
  clear hb
  go_wp2_with fail
  refine (ex50 _).mono ?_
  rintro e w9 ⟨ad, c_d, rfl, R_d, hb⟩
  have U9 : Below w.heap.size w w9 := Below.then_ U8 hb
  replace B := hide (Below.then_ B.out hb)
  replace R_d := hide R_d
  clear hb
  obtain ⟨ad', hA, _, hca⟩ := (Rd.al_ (o := .cells #[.bool true, .slice (some ad) 1 c_d, .int .i64 2] 29) R_d.out).at_ (k := 0) (by simp)
  cases hA
  replace hca : (w9.alloc (.cells #[.bool true, .slice (some ad) 1 c_d, .int .i64 2] 29)).cell? ad = some (.int .u32 50) := hca
  have hcap := R_d.out.cap
  have hbx : Below w9.heap.size w9 (w9.alloc (.cells #[.bool true, .slice (some ad) 1 c_d, .int .i64 2] 29)) := ((Below.refl _ _).alloc (Nat.le_refl _) _)
  have Ux := Below.then_ U9 hbx
  go_wp2_with fail
  obtain ⟨V9, hV⟩ : ∃ V, V = (w9.alloc (.cells #[.bool true, .slice (some ad) 1 c_d, .int .i64 2] 29)) := ⟨_, rfl⟩
  obtain ⟨g_d, hg_d⟩ : ∃ g, g = w9.heap.size := ⟨_, rfl⟩
  rw [← hV]
  rw [← hV] at hbx Ux
  rw [← hg_d]
  have b_d : BoxD V9 g_d (.bool true) (.slice (some ad) 1 c_d) (.int .i64 2) := by rw [hV]; exact (BoxD.new _ _ _ _ hg_d)
  clear hV
  have ge_d : w.heap.size ≤ g_d := by have := B.out.size; omega
  replace ge_d := hide ge_d
  clear hg_d
  replace R_d := hide (Rd.then_ R_d.out hbx)
  have U10 : Below w.heap.size w V9 := Below.then_ U9 hbx
  replace B := hide (Below.then_ B.out hbx)
  clear hbx
  replace b_d := hide b_d
  have U11 : Below V9.heap.size V9 V9 := Below.refl _ _
  have c_d0 := b_d.out.at0 b_d.out.lt_size (Nat.le_refl _)
  have c_d1 := b_d.out.at1 b_d.out.lt_size (Nat.le_refl _)
  have c_d2 := b_d.out.at2 b_d.out.lt_size (Nat.le_refl _)
  clear hca hcap
  refine (pvalue_ok (s_d := true) (p := 2) R_d.out (by omega) (Nat.le_refl _) rfl (by omega) e_v.out).mono ?_
  rintro e w10 ⟨A_v, c_v, A_vd, c_vd, rfl, R_v, R_vd, hb⟩
  replace R_d := hide (Rd.then_ R_d.out hb)
  have U12 : Below V9.heap.size V9 w10 := Below.then_ U11 hb
  replace B := hide (Below.then_ B.out hb)
  replace R_v := hide R_v
  replace R_vd := hide R_vd
  clear hb
  have hbx : Below w10.heap.size w10 (w10.alloc (.cells #[.bool (zneg q.num), .slice A_v (dig (zmag q.num)).length c_v, .slice A_vd (dig q.den).length c_vd] 27)) := ((Below.refl _ _).alloc (Nat.le_refl _) _)
  have Ux := Below.then_ U12 hbx
  go_wp2_with fail
  obtain ⟨V12, hV⟩ : ∃ V, V = (w10.alloc (.cells #[.bool (zneg q.num), .slice A_v (dig (zmag q.num)).length c_v, .slice A_vd (dig q.den).length c_vd] 27)) := ⟨_, rfl⟩
  obtain ⟨g_v, hg_v⟩ : ∃ g, g = w10.heap.size := ⟨_, rfl⟩
  rw [← hV]
  rw [← hV] at hbx Ux
  rw [← hg_v]
  have b_v : Box3 V12 g_v (.bool (zneg q.num)) (.slice A_v (dig (zmag q.num)).length c_v) (.slice A_vd (dig q.den).length c_vd) := by rw [hV]; exact (Box3.new _ _ _ _ hg_v)
  clear hV
  have ne_d_v : g_d ≠ g_v := by have := (b_d.out.lt b_d.out.lt_size (Nat.le_refl _)) _ U12; omega
  replace ne_d_v := hide ne_d_v
  have ge_v : w.heap.size ≤ g_v := by have := B.out.size; omega
  replace ge_v := hide ge_v
  clear hg_v
  replace R_d := hide (Rd.then_ R_d.out hbx)
  replace R_v := hide (Rd.then_ R_v.out hbx)
  replace R_vd := hide (Rd.then_ R_vd.out hbx)
  have U13 : Below V9.heap.size V9 V12 := Below.then_ U12 hbx
  replace B := hide (Below.then_ B.out hbx)
  clear hbx
  replace b_d := hide (BoxD.keep b_d.out U13)
  clear c_d0 c_d1 c_d2
  replace b_v := hide b_v
  have U14 : Below V12.heap.size V12 V12 := Below.refl _ _
  have c_d0 := b_d.out.at0 b_d.out.lt_size (Nat.le_refl _)
  have c_d1 := b_d.out.at1 b_d.out.lt_size (Nat.le_refl _)
  have c_d2 := b_d.out.at2 b_d.out.lt_size (Nat.le_refl _)
  have c_v0 := b_v.out.at0 b_v.out.lt_size (Nat.le_refl _)
  have c_v1 := b_v.out.at1 b_v.out.lt_size (Nat.le_refl _)
  have c_v2 := b_v.out.at2 b_v.out.lt_size (Nat.le_refl _)
  refine (pprint3_any R_v.out s_q.out.1 R_vd.out s_q.out.2 (Nat.le_refl _) e_qq.out).mono ?_
  rw [e_qs.out]
  rintro e w11 ⟨rfl, hb⟩
  replace R_d := hide (Rd.then_ R_d.out hb)
  replace R_v := hide (Rd.then_ R_v.out hb)
  replace R_vd := hide (Rd.then_ R_vd.out hb)
  have U15 : Below V12.heap.size V12 w11 := Below.then_ U14 hb
  replace B := hide (Below.then_ B.out hb)
  clear hb
  go_wp2_with fail
  refine (ex00 _).mono ?_
  rintro e w12 ⟨A_e, c_e, rfl, R_e, hb⟩
  replace R_d := hide (Rd.then_ R_d.out hb)
  replace R_v := hide (Rd.then_ R_v.out hb)
  replace R_vd := hide (Rd.then_ R_vd.out hb)
  have U16 : Below V12.heap.size V12 w12 := Below.then_ U15 hb
  replace B := hide (Below.then_ B.out hb)
  replace R_e := hide R_e
  clear hb
  go_wp2_with fail
  refine (pround_bad R_v.out s_q.out.1 R_vd.out s_q.out.2 (Nat.le_refl _) (by omega) rfl).mono ?_
  rintro e w13 ⟨A_f, c_f, rfl, R_f, hb⟩
  replace R_d := hide (Rd.then_ R_d.out hb)
  replace R_v := hide (Rd.then_ R_v.out hb)
  replace R_vd := hide (Rd.then_ R_vd.out hb)
  replace R_e := hide (Rd.then_ R_e.out hb)
  have U17 : Below V12.heap.size V12 w13 := Below.then_ U16 hb
  replace B := hide (Below.then_ B.out hb)
  replace R_f := hide R_f
  clear hb
  have hbx : Below w13.heap.size w13 (w13.alloc (.cells #[.bool (zneg 0), .slice A_f (dig (zmag 0)).length c_f, .int .i64 0] 29)) := ((Below.refl _ _).alloc (Nat.le_refl _) _)
  have Ux := Below.then_ U17 hbx
  go_wp2_with fail
  obtain ⟨V17, hV⟩ : ∃ V, V = (w13.alloc (.cells #[.bool (zneg 0), .slice A_f (dig (zmag 0)).length c_f, .int .i64 0] 29)) := ⟨_, rfl⟩
  obtain ⟨g_f, hg_f⟩ : ∃ g, g = w13.heap.size := ⟨_, rfl⟩
  rw [← hV]
  rw [← hV] at hbx Ux
  rw [← hg_f]
  have b_f : BoxD V17 g_f (.bool (zneg 0)) (.slice A_f (dig (zmag 0)).length c_f) (.int .i64 0) := by rw [hV]; exact (BoxD.new _ _ _ _ hg_f)
  clear hV
  have ne_d_f : g_d ≠ g_f := by have := (b_d.out.lt b_d.out.lt_size (Nat.le_refl _)) _ U17; omega
  replace ne_d_f := hide ne_d_f
  have ne_v_f : g_v ≠ g_f := by have := (b_v.out.lt b_v.out.lt_size (Nat.le_refl _)) _ U17; omega
  replace ne_v_f := hide ne_v_f
  have ge_f : w.heap.size ≤ g_f := by have := B.out.size; omega
  replace ge_f := hide ge_f
  clear hg_f
  replace R_d := hide (Rd.then_ R_d.out hbx)
  replace R_v := hide (Rd.then_ R_v.out hbx)
  replace R_vd := hide (Rd.then_ R_vd.out hbx)
  replace R_e := hide (Rd.then_ R_e.out hbx)
  replace R_f := hide (Rd.then_ R_f.out hbx)
  have U18 : Below V12.heap.size V12 V17 := Below.then_ U17 hbx
  replace B := hide (Below.then_ B.out hbx)
  clear hbx
  replace b_d := hide (BoxD.keep b_d.out U18)
  clear c_d0 c_d1 c_d2
  replace b_v := hide (Box3.keep b_v.out U18)
  clear c_v0 c_v1 c_v2
  replace b_f := hide b_f
  have U19 : Below V17.heap.size V17 V17 := Below.refl _ _
  have c_d0 := b_d.out.at0 b_d.out.lt_size (Nat.le_refl _)
  have c_d1 := b_d.out.at1 b_d.out.lt_size (Nat.le_refl _)
  have c_d2 := b_d.out.at2 b_d.out.lt_size (Nat.le_refl _)
  have c_v0 := b_v.out.at0 b_v.out.lt_size (Nat.le_refl _)
  have c_v1 := b_v.out.at1 b_v.out.lt_size (Nat.le_refl _)
  have c_v2 := b_v.out.at2 b_v.out.lt_size (Nat.le_refl _)
  have c_f0 := b_f.out.at0 b_f.out.lt_size (Nat.le_refl _)
  have c_f1 := b_f.out.at1 b_f.out.lt_size (Nat.le_refl _)
  have c_f2 := b_f.out.at2 b_f.out.lt_size (Nat.le_refl _)
  refine (pinteger_any R_v.out s_q.out.1 R_vd.out s_q.out.2 (Nat.le_refl _) rfl rfl).mono ?_
  rintro e w14 ⟨A_g, c_g, rfl, R_g, hb⟩
  replace R_d := hide (Rd.then_ R_d.out hb)
  replace R_v := hide (Rd.then_ R_v.out hb)
  replace R_vd := hide (Rd.then_ R_vd.out hb)
  replace R_e := hide (Rd.then_ R_e.out hb)
  replace R_f := hide (Rd.then_ R_f.out hb)
  have U20 : Below V17.heap.size V17 w14 := Below.then_ U19 hb
  replace B := hide (Below.then_ B.out hb)
  replace R_g := hide R_g
  clear hb
  go_wp2
  go_ret
  exact ⟨rfl, Below.al_ B.out _⟩
end
end Go.Proofs.YtdlmfembnmomjaaGreatDoor
