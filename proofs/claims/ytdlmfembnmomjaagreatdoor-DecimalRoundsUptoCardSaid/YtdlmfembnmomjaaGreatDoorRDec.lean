/-
  RDec1, RDec2.
-/
import Derived.Test.YtdlmfembnmomjaaGreatDoorDecA
import Derived.Test.YtdlmfembnmomjaaGreatDoorRefPow
import Derived.Test.YtdlmfembnmomjaaGreatDoorRFloor3
import Derived.Test.YtdlmfembnmomjaaGreatDoorDecB
namespace Go.Proofs.YtdlmfembnmomjaaGreatDoor
section
open Go.RowKit


theorem RetRat.whole {w w2 : World} {z : Int} {A B1 B2 : Option Addr} {c n1 d1 n2 d2 g : Nat} {b : Bool} (hb : Below w.heap.size w w2) (hg : w.heap.size ≤ g)
    (hc0 : w2.cell? ⟨g, 0, none⟩ = some (.bool b)) (hc1 : w2.cell? ⟨g, 1, none⟩ = some (.slice B1 n1 d1)) (hc2 : w2.cell? ⟨g, 2, none⟩ = some (.slice B2 n2 d2)) (R : Rd w2 w2.heap.size A (dig (zmag z)).length c (dig (zmag z))) :
    RetRat w (z : Rat) (.returned (.agg #[.bool (zneg z), .slice A (dig (zmag z)).length c, .slice (some ⟨w2.heap.size, 0, none⟩) 1 1])) ((((w2.setCell ⟨g, 0, none⟩ (.bool (zneg z))).setCell ⟨g, 1, none⟩ (.slice A (dig (zmag z)).length c)).setCell ⟨g, 2, none⟩ (.slice (some ⟨w2.heap.size, 0, none⟩) 1 1)).alloc (Obj.cells #[Value.int IntKind.u32 1] 46)) := by
  refine ⟨A, c, some ⟨w2.heap.size, 0, none⟩, 1, ?_, ?_, ?_, ?_⟩
  · rw [Rat.num_intCast, Rat.den_intCast, dig_one]; rfl
  · rw [Rat.num_intCast]
    exact Rd.al_ (by simpa using far3 hc0 hc1 hc2 _ _ _ R)
  · rw [Rat.den_intCast, dig_one]
    exact Rd.limb1 (x := 1) _ (by simp) (by omega) rfl
  · exact Below.al_ (((hb.setCell hg _).setCell hg _).setCell hg _) _
theorem rpown_any {w : World} {Bd : Nat} {A : Option Addr} {n c : Nat} {xs : List Nat} {k m : Nat} (h : Rd w Bd A n c xs) (hB : Bd ≤ w.heap.size) (hn : n ≤ 68719476736) (hk : k ≤ 512) (hm : val xs ^ k = m) :
    Calls Tryz.prog 83 #[.slice A n c, .int .i64 (k : Int)] w (fun e w' => ∃ A c, e = .returned (.tuple #[.slice A (dig m).length c, .bool true]) ∧ Rd w' w'.heap.size A (dig m).length c (dig m) ∧ Below w.heap.size w w') := by
  subst hm
  exact rpow_any w Bd A n c xs h hB hn k hk

set_option maxHeartbeats 4000000 in
theorem whole_any {w : World} {Bd : Nat} {A_a : Option Addr} {n_a c_a : Nat} {x_a : List Nat} {s_a : Bool} (h_a : Rd w Bd A_a n_a c_a x_a) (_g_a : n_a ≤ 10000000000) (hB : Bd ≤ w.heap.size) {z : Int} (hz : iv s_a (val x_a) = z) :
    Calls Tryz.prog 42 #[.agg #[.bool s_a, .slice A_a n_a c_a]] w (RetRat w (z : Rat)) := by
  replace hz := hide hz
  obtain ⟨W, hW⟩ : ∃ W, W = ((w.alloc (.cells #[.bool s_a, .slice A_a n_a c_a] 25)).alloc (.cells #[.bool false, .slice none 0 0, .slice none 0 0] 27)) := ⟨_, rfl⟩
  have b_a : Box W (w.heap.size) (.bool s_a) (.slice A_a n_a c_a) := by rw [hW]; exact ((Box.new w _ _ rfl).al _)
  have b_r0 : Box3 W (w.heap.size + 1) (.bool false) (.slice none 0 0) (.slice none 0 0) := by rw [hW]; exact (Box3.new _ _ _ _ (by simp))
  have hwW : Below w.heap.size w W := by rw [hW]; exact (((Below.refl _ _).alloc (Nat.le_refl _) _).alloc (by simp) _)
  have R_a := hide (Rd.upto h_a hwW hB)
  clear h_a
  have B := hide hwW
  clear hwW
  clear hB
  have U0 : Below W.heap.size W W := Below.refl _ _
  have c_a0 := b_a.at0 b_a.lt_size (Nat.le_refl _)
  have c_a1 := b_a.at1 b_a.lt_size (Nat.le_refl _)
  replace b_a := hide b_a
  have c_r00 := b_r0.at0 b_r0.lt_size (Nat.le_refl _)
  have c_r01 := b_r0.at1 b_r0.lt_size (Nat.le_refl _)
  have c_r02 := b_r0.at2 b_r0.lt_size (Nat.le_refl _)
  have f_r00 := b_r0.free0 b_r0.lt_size (Nat.le_refl _)
  have f_r01 := b_r0.free1 b_r0.lt_size (Nat.le_refl _)
  have f_r02 := b_r0.free2 b_r0.lt_size (Nat.le_refl _)
  have l_r0 := b_r0.lt b_r0.lt_size (Nat.le_refl _)
  replace b_r0 := hide b_r0
  go_enter Tryz.func42, Tryz.ntmps42
  go_wp2_with fail
  rw [← hW]
  clear hW
  refine (rinorm_any _ _ _ _ _ _ _ R_a.out (Nat.le_refl _)).mono ?_
  rw [hz.out]
  rintro e w1 ⟨A_n, c_n, rfl, R_n, hb⟩
  replace R_a := hide (Rd.then_ R_a.out hb)
  have U1 : Below W.heap.size W w1 := Below.then_ U0 hb
  replace B := hide (Below.then_ B.out hb)
  replace R_n := hide R_n
  clear hb
  go_wp2
  exact bodyPost_ret (v := .agg #[.bool (zneg z), .slice A_n (dig (zmag z)).length c_n, .slice (some ⟨w1.heap.size, 0, none⟩) 1 1]) (by simp [results, Tryz.results42, go_sem, c_r00 _ U1, c_r01 _ U1, c_r02 _ U1, l_r0 _ U1]) rfl (RetRat.whole B.out (by omega) (c_r00 _ U1) (c_r01 _ U1) (c_r02 _ U1) R_n.out)

set_option maxHeartbeats 4000000 in
theorem power_any {w : World} {p : Nat}  {m : Nat} (h9 : p ≤ 9) (hm : 10 ^ p = m) :
    Calls Tryz.prog 43 #[.int .i64 (p : Int)] w (RetNat w m) := by
  have e_m : val [10] ^ p = m := by rw [show val [10] = 10 from rfl]; exact hm
  replace e_m := hide e_m
  clear hm
  replace h9 := hide h9
  have B := hide (Below.refl w.heap.size w)
  have U0 : Below w.heap.size w w := Below.refl _ _
  go_enter Tryz.func43, Tryz.ntmps43
  go_wp2_with fail
  have hbx : Below w.heap.size w (w.alloc (.cells #[.int .u32 10] 46)) := ((Below.refl _ _).alloc (Nat.le_refl _) _)
  go_wp2_with fail
  obtain ⟨V0, hV⟩ : ∃ V, V = (w.alloc (.cells #[.int .u32 10] 46)) := ⟨_, rfl⟩
  obtain ⟨g_t, hg_t⟩ : ∃ g, g = w.heap.size := ⟨_, rfl⟩
  rw [← hV]
  rw [← hV] at hbx
  rw [← hg_t]
  have R_t : Rd V0 V0.heap.size (some ⟨g_t, 0, none⟩) 1 1 [10] := by rw [hV]; exact (Rd.limb1 _ hg_t (by omega) rfl)
  replace R_t := hide R_t
  clear hV hg_t
  have U1 : Below w.heap.size w V0 := Below.then_ U0 hbx
  replace B := hide (Below.then_ B.out hbx)
  clear hbx
  refine (rpown_any R_t.out (Nat.le_refl _) (by omega) (by have := h9.out; omega) e_m.out).mono ?_
  rintro e w1 ⟨A_m, c_m, rfl, R_m, hb⟩
  replace R_t := hide (Rd.then_ R_t.out hb)
  have U2 : Below w.heap.size w w1 := Below.then_ U1 hb
  replace B := hide (Below.then_ B.out hb)
  replace R_m := hide R_m
  clear hb
  go_wp2
  go_ret
  exact ⟨A_m, c_m, rfl, R_m.out, B.out⟩

set_option maxHeartbeats 4000000 in
theorem up_0 {w : World} {Bd : Nat} {A_a : Option Addr} {n_a c_a : Nat} {x_a : List Nat} {s_a : Bool} {A_ad : Option Addr} {n_ad c_ad : Nat} {x_ad : List Nat} {A_f : Option Addr} {n_f c_f : Nat} {x_f : List Nat} {s_f : Bool} {A_r : Option Addr} {n_r c_r : Nat} {x_r : List Nat} {s_r : Bool} {A_rd : Option Addr} {n_rd c_rd : Nat} {x_rd : List Nat} {m : Int} (h_a : Rd w Bd A_a n_a c_a x_a) (_g_a : n_a ≤ 1000000000) (h_ad : Rd w Bd A_ad n_ad c_ad x_ad) (_g_ad : n_ad ≤ 1000000000) (h_f : Rd w Bd A_f n_f c_f x_f) (_g_f : n_f ≤ 1000000000) (h_r : Rd w Bd A_r n_r c_r x_r) (g_r : n_r ≤ 1000000000) (h_rd : Rd w Bd A_rd n_rd c_rd x_rd) (g_rd : n_rd ≤ 1000000000) (hB : Bd ≤ w.heap.size) (hj : sgn (qv s_r (val x_r) (val x_rd)).num = 0) :
    Calls Tryz.prog 46 #[.agg #[.bool s_a, .slice A_a n_a c_a, .slice A_ad n_ad c_ad], .agg #[.bool s_f, .slice A_f n_f c_f], .agg #[.bool s_r, .slice A_r n_r c_r, .slice A_rd n_rd c_rd], .int .i64 m] w (RetB w (.bool (false))) := by
  replace hj := hide hj
  obtain ⟨W, hW⟩ : ∃ W, W = (((w.alloc (.cells #[.bool s_a, .slice A_a n_a c_a, .slice A_ad n_ad c_ad] 27)).alloc (.cells #[.bool s_f, .slice A_f n_f c_f] 25)).alloc (.cells #[.bool s_r, .slice A_r n_r c_r, .slice A_rd n_rd c_rd] 27)) := ⟨_, rfl⟩
  have b_a : Box3 W (w.heap.size) (.bool s_a) (.slice A_a n_a c_a) (.slice A_ad n_ad c_ad) := by rw [hW]; exact (((Box3.new w _ _ _ rfl).al _).al _)
  have b_f : Box W (w.heap.size + 1) (.bool s_f) (.slice A_f n_f c_f) := by rw [hW]; exact ((Box.new _ _ _ (by simp)).al _)
  have b_r : Box3 W (w.heap.size + 1 + 1) (.bool s_r) (.slice A_r n_r c_r) (.slice A_rd n_rd c_rd) := by rw [hW]; exact (Box3.new _ _ _ _ (by simp))
  have hwW : Below w.heap.size w W := by rw [hW]; exact ((((Below.refl _ _).alloc (Nat.le_refl _) _).alloc (by simp) _).alloc (by simp; omega) _)
  have R_a := hide (Rd.upto h_a hwW hB)
  clear h_a
  have R_ad := hide (Rd.upto h_ad hwW hB)
  clear h_ad
  have R_f := hide (Rd.upto h_f hwW hB)
  clear h_f
  have R_r := hide (Rd.upto h_r hwW hB)
  clear h_r
  have R_rd := hide (Rd.upto h_rd hwW hB)
  clear h_rd
  have B := hide hwW
  clear hwW
  clear hB
  have U0 : Below W.heap.size W W := Below.refl _ _
  have c_a0 := b_a.at0 b_a.lt_size (Nat.le_refl _)
  have c_a1 := b_a.at1 b_a.lt_size (Nat.le_refl _)
  have c_a2 := b_a.at2 b_a.lt_size (Nat.le_refl _)
  replace b_a := hide b_a
  have c_f0 := b_f.at0 b_f.lt_size (Nat.le_refl _)
  have c_f1 := b_f.at1 b_f.lt_size (Nat.le_refl _)
  replace b_f := hide b_f
  have c_r0 := b_r.at0 b_r.lt_size (Nat.le_refl _)
  have c_r1 := b_r.at1 b_r.lt_size (Nat.le_refl _)
  have c_r2 := b_r.at2 b_r.lt_size (Nat.le_refl _)
  replace b_r := hide b_r
  go_enter Tryz.func46, Tryz.ntmps46
  go_wp2_with fail
  rw [← hW]
  clear hW
  refine (rsign3_any R_r.out g_r R_rd.out g_rd (Nat.le_refl _) hj.out).mono ?_
  rintro e w1 ⟨rfl, hb⟩
  replace R_a := hide (Rd.then_ R_a.out hb)
  replace R_ad := hide (Rd.then_ R_ad.out hb)
  replace R_f := hide (Rd.then_ R_f.out hb)
  replace R_r := hide (Rd.then_ R_r.out hb)
  replace R_rd := hide (Rd.then_ R_rd.out hb)
  have U1 : Below W.heap.size W w1 := Below.then_ U0 hb
  replace B := hide (Below.then_ B.out hb)
  clear hb
  go_wp2
  go_ret
  exact ⟨rfl, B.out⟩

set_option maxHeartbeats 4000000 in
theorem up_1n {w : World} {Bd : Nat} {A_a : Option Addr} {n_a c_a : Nat} {x_a : List Nat} {s_a : Bool} {A_ad : Option Addr} {n_ad c_ad : Nat} {x_ad : List Nat} {A_f : Option Addr} {n_f c_f : Nat} {x_f : List Nat} {s_f : Bool} {A_r : Option Addr} {n_r c_r : Nat} {x_r : List Nat} {s_r : Bool} {A_rd : Option Addr} {n_rd c_rd : Nat} {x_rd : List Nat} (h_a : Rd w Bd A_a n_a c_a x_a) (g_a : n_a ≤ 1000000000) (h_ad : Rd w Bd A_ad n_ad c_ad x_ad) (g_ad : n_ad ≤ 1000000000) (h_f : Rd w Bd A_f n_f c_f x_f) (_g_f : n_f ≤ 1000000000) (h_r : Rd w Bd A_r n_r c_r x_r) (g_r : n_r ≤ 1000000000) (h_rd : Rd w Bd A_rd n_rd c_rd x_rd) (g_rd : n_rd ≤ 1000000000) (hB : Bd ≤ w.heap.size) {j k : Int} (hj : sgn (qv s_r (val x_r) (val x_rd)).num = j) (hj0 : j ≠ 0) (hk : sgn (qv s_a (val x_a) (val x_ad)).num = k) {c : Int} (hc : sgn (qv s_r (val x_r) (val x_rd) - mkRat 1 2).num = c) (hc0 : c ≠ 0) :
    Calls Tryz.prog 46 #[.agg #[.bool s_a, .slice A_a n_a c_a, .slice A_ad n_ad c_ad], .agg #[.bool s_f, .slice A_f n_f c_f], .agg #[.bool s_r, .slice A_r n_r c_r, .slice A_rd n_rd c_rd], .int .i64 1] w (RetB w (.bool (decide (0 < c)))) := by
  have ej : (j == 0) = false := by simpa using hj0
  clear hj0
  replace hk := hide hk
  replace hj := hide hj
  have ec : (c != 0) = true := by simpa using hc0
  clear hc0
  obtain ⟨d, hd⟩ : ∃ d, decide (0 < c) = d := ⟨_, rfl⟩
  rw [hd]
  have e_c : sgn (qv s_r (val x_r) (val x_rd) - qv false (val [1]) (val [2])).num = c := hc
  replace e_c := hide e_c
  clear hc
  obtain ⟨W, hW⟩ : ∃ W, W = (((w.alloc (.cells #[.bool s_a, .slice A_a n_a c_a, .slice A_ad n_ad c_ad] 27)).alloc (.cells #[.bool s_f, .slice A_f n_f c_f] 25)).alloc (.cells #[.bool s_r, .slice A_r n_r c_r, .slice A_rd n_rd c_rd] 27)) := ⟨_, rfl⟩
  have b_a : Box3 W (w.heap.size) (.bool s_a) (.slice A_a n_a c_a) (.slice A_ad n_ad c_ad) := by rw [hW]; exact (((Box3.new w _ _ _ rfl).al _).al _)
  have b_f : Box W (w.heap.size + 1) (.bool s_f) (.slice A_f n_f c_f) := by rw [hW]; exact ((Box.new _ _ _ (by simp)).al _)
  have b_r : Box3 W (w.heap.size + 1 + 1) (.bool s_r) (.slice A_r n_r c_r) (.slice A_rd n_rd c_rd) := by rw [hW]; exact (Box3.new _ _ _ _ (by simp))
  have hwW : Below w.heap.size w W := by rw [hW]; exact ((((Below.refl _ _).alloc (Nat.le_refl _) _).alloc (by simp) _).alloc (by simp; omega) _)
  have R_a := hide (Rd.upto h_a hwW hB)
  clear h_a
  have R_ad := hide (Rd.upto h_ad hwW hB)
  clear h_ad
  have R_f := hide (Rd.upto h_f hwW hB)
  clear h_f
  have R_r := hide (Rd.upto h_r hwW hB)
  clear h_r
  have R_rd := hide (Rd.upto h_rd hwW hB)
  clear h_rd
  have B := hide hwW
  clear hwW
  clear hB
  have U0 : Below W.heap.size W W := Below.refl _ _
  have c_a0 := b_a.at0 b_a.lt_size (Nat.le_refl _)
  have c_a1 := b_a.at1 b_a.lt_size (Nat.le_refl _)
  have c_a2 := b_a.at2 b_a.lt_size (Nat.le_refl _)
  replace b_a := hide b_a
  have c_f0 := b_f.at0 b_f.lt_size (Nat.le_refl _)
  have c_f1 := b_f.at1 b_f.lt_size (Nat.le_refl _)
  replace b_f := hide b_f
  have c_r0 := b_r.at0 b_r.lt_size (Nat.le_refl _)
  have c_r1 := b_r.at1 b_r.lt_size (Nat.le_refl _)
  have c_r2 := b_r.at2 b_r.lt_size (Nat.le_refl _)
  replace b_r := hide b_r
  go_enter Tryz.func46, Tryz.ntmps46
  go_wp2_with fail
  rw [← hW]
  clear hW
  refine (rsign3_any R_r.out g_r R_rd.out g_rd (Nat.le_refl _) hj.out).mono ?_
  rintro e w1 ⟨rfl, hb⟩
  replace R_a := hide (Rd.then_ R_a.out hb)
  replace R_ad := hide (Rd.then_ R_ad.out hb)
  replace R_f := hide (Rd.then_ R_f.out hb)
  replace R_r := hide (Rd.then_ R_r.out hb)
  replace R_rd := hide (Rd.then_ R_rd.out hb)
  have U1 : Below W.heap.size W w1 := Below.then_ U0 hb
  replace B := hide (Below.then_ B.out hb)
  clear hb
  go_wp2_with fail
  refine (rsign3_any R_a.out g_a R_ad.out g_ad (Nat.le_refl _) hk.out).mono ?_
  rintro e w2 ⟨rfl, hb⟩
  replace R_a := hide (Rd.then_ R_a.out hb)
  replace R_ad := hide (Rd.then_ R_ad.out hb)
  replace R_f := hide (Rd.then_ R_f.out hb)
  replace R_r := hide (Rd.then_ R_r.out hb)
  replace R_rd := hide (Rd.then_ R_rd.out hb)
  have U2 : Below W.heap.size W w2 := Below.then_ U1 hb
  replace B := hide (Below.then_ B.out hb)
  clear hb
  have hbx : Below w2.heap.size w2 ((w2.alloc (.cells #[.int .u32 1] 46)).alloc (.cells #[.int .u32 2] 46)) := (((Below.refl _ _).alloc (Nat.le_refl _) _).alloc (by simp) _)
  go_wp2_with fail
  obtain ⟨V2, hV⟩ : ∃ V, V = ((w2.alloc (.cells #[.int .u32 1] 46)).alloc (.cells #[.int .u32 2] 46)) := ⟨_, rfl⟩
  obtain ⟨g_o, hg_o⟩ : ∃ g, g = w2.heap.size := ⟨_, rfl⟩
  obtain ⟨g_t, hg_t⟩ : ∃ g, g = w2.heap.size + 1 := ⟨_, rfl⟩
  rw [← hV]
  rw [← hV] at hbx
  rw [← hg_t]
  rw [← hg_o]
  have R_o : Rd V2 V2.heap.size (some ⟨g_o, 0, none⟩) 1 1 [1] := by rw [hV]; exact (Rd.al_ (Rd.limb1 _ hg_o (by omega) rfl))
  replace R_o := hide R_o
  have R_t : Rd V2 V2.heap.size (some ⟨g_t, 0, none⟩) 1 1 [2] := by rw [hV]; exact (Rd.limb1 _ (by rw [hg_t]; simp) (by omega) rfl)
  replace R_t := hide R_t
  clear hV hg_o hg_t
  replace R_a := hide (Rd.then_ R_a.out hbx)
  replace R_ad := hide (Rd.then_ R_ad.out hbx)
  replace R_f := hide (Rd.then_ R_f.out hbx)
  replace R_r := hide (Rd.then_ R_r.out hbx)
  replace R_rd := hide (Rd.then_ R_rd.out hbx)
  have U3 : Below W.heap.size W V2 := Below.then_ U2 hbx
  replace B := hide (Below.then_ B.out hbx)
  clear hbx
  refine (rcmp3_any (s_b := false) R_r.out g_r R_rd.out g_rd R_o.out (by omega) R_t.out (by omega) (Nat.le_refl _) e_c.out).mono ?_
  rintro e w3 ⟨rfl, hb⟩
  replace R_a := hide (Rd.then_ R_a.out hb)
  replace R_ad := hide (Rd.then_ R_ad.out hb)
  replace R_f := hide (Rd.then_ R_f.out hb)
  replace R_r := hide (Rd.then_ R_r.out hb)
  replace R_rd := hide (Rd.then_ R_rd.out hb)
  replace R_o := hide (Rd.then_ R_o.out hb)
  replace R_t := hide (Rd.then_ R_t.out hb)
  have U4 : Below W.heap.size W w3 := Below.then_ U3 hb
  replace B := hide (Below.then_ B.out hb)
  clear hb
  go_wp2
  go_ret
  exact ⟨rfl, B.out⟩

set_option maxHeartbeats 4000000 in
theorem up_2n {w : World} {Bd : Nat} {A_a : Option Addr} {n_a c_a : Nat} {x_a : List Nat} {s_a : Bool} {A_ad : Option Addr} {n_ad c_ad : Nat} {x_ad : List Nat} {A_f : Option Addr} {n_f c_f : Nat} {x_f : List Nat} {s_f : Bool} {A_r : Option Addr} {n_r c_r : Nat} {x_r : List Nat} {s_r : Bool} {A_rd : Option Addr} {n_rd c_rd : Nat} {x_rd : List Nat} (h_a : Rd w Bd A_a n_a c_a x_a) (g_a : n_a ≤ 1000000000) (h_ad : Rd w Bd A_ad n_ad c_ad x_ad) (g_ad : n_ad ≤ 1000000000) (h_f : Rd w Bd A_f n_f c_f x_f) (_g_f : n_f ≤ 1000000000) (h_r : Rd w Bd A_r n_r c_r x_r) (g_r : n_r ≤ 1000000000) (h_rd : Rd w Bd A_rd n_rd c_rd x_rd) (g_rd : n_rd ≤ 1000000000) (hB : Bd ≤ w.heap.size) {j k : Int} (hj : sgn (qv s_r (val x_r) (val x_rd)).num = j) (hj0 : j ≠ 0) (hk : sgn (qv s_a (val x_a) (val x_ad)).num = k) {c : Int} (hc : sgn (qv s_r (val x_r) (val x_rd) - mkRat 1 2).num = c) (hc0 : c ≠ 0) :
    Calls Tryz.prog 46 #[.agg #[.bool s_a, .slice A_a n_a c_a, .slice A_ad n_ad c_ad], .agg #[.bool s_f, .slice A_f n_f c_f], .agg #[.bool s_r, .slice A_r n_r c_r, .slice A_rd n_rd c_rd], .int .i64 2] w (RetB w (.bool (decide (0 < c)))) := by
  have ej : (j == 0) = false := by simpa using hj0
  clear hj0
  replace hk := hide hk
  replace hj := hide hj
  have ec : (c != 0) = true := by simpa using hc0
  clear hc0
  obtain ⟨d, hd⟩ : ∃ d, decide (0 < c) = d := ⟨_, rfl⟩
  rw [hd]
  have e_c : sgn (qv s_r (val x_r) (val x_rd) - qv false (val [1]) (val [2])).num = c := hc
  replace e_c := hide e_c
  clear hc
  obtain ⟨W, hW⟩ : ∃ W, W = (((w.alloc (.cells #[.bool s_a, .slice A_a n_a c_a, .slice A_ad n_ad c_ad] 27)).alloc (.cells #[.bool s_f, .slice A_f n_f c_f] 25)).alloc (.cells #[.bool s_r, .slice A_r n_r c_r, .slice A_rd n_rd c_rd] 27)) := ⟨_, rfl⟩
  have b_a : Box3 W (w.heap.size) (.bool s_a) (.slice A_a n_a c_a) (.slice A_ad n_ad c_ad) := by rw [hW]; exact (((Box3.new w _ _ _ rfl).al _).al _)
  have b_f : Box W (w.heap.size + 1) (.bool s_f) (.slice A_f n_f c_f) := by rw [hW]; exact ((Box.new _ _ _ (by simp)).al _)
  have b_r : Box3 W (w.heap.size + 1 + 1) (.bool s_r) (.slice A_r n_r c_r) (.slice A_rd n_rd c_rd) := by rw [hW]; exact (Box3.new _ _ _ _ (by simp))
  have hwW : Below w.heap.size w W := by rw [hW]; exact ((((Below.refl _ _).alloc (Nat.le_refl _) _).alloc (by simp) _).alloc (by simp; omega) _)
  have R_a := hide (Rd.upto h_a hwW hB)
  clear h_a
  have R_ad := hide (Rd.upto h_ad hwW hB)
  clear h_ad
  have R_f := hide (Rd.upto h_f hwW hB)
  clear h_f
  have R_r := hide (Rd.upto h_r hwW hB)
  clear h_r
  have R_rd := hide (Rd.upto h_rd hwW hB)
  clear h_rd
  have B := hide hwW
  clear hwW
  clear hB
  have U0 : Below W.heap.size W W := Below.refl _ _
  have c_a0 := b_a.at0 b_a.lt_size (Nat.le_refl _)
  have c_a1 := b_a.at1 b_a.lt_size (Nat.le_refl _)
  have c_a2 := b_a.at2 b_a.lt_size (Nat.le_refl _)
  replace b_a := hide b_a
  have c_f0 := b_f.at0 b_f.lt_size (Nat.le_refl _)
  have c_f1 := b_f.at1 b_f.lt_size (Nat.le_refl _)
  replace b_f := hide b_f
  have c_r0 := b_r.at0 b_r.lt_size (Nat.le_refl _)
  have c_r1 := b_r.at1 b_r.lt_size (Nat.le_refl _)
  have c_r2 := b_r.at2 b_r.lt_size (Nat.le_refl _)
  replace b_r := hide b_r
  go_enter Tryz.func46, Tryz.ntmps46
  go_wp2_with fail
  rw [← hW]
  clear hW
  refine (rsign3_any R_r.out g_r R_rd.out g_rd (Nat.le_refl _) hj.out).mono ?_
  rintro e w1 ⟨rfl, hb⟩
  replace R_a := hide (Rd.then_ R_a.out hb)
  replace R_ad := hide (Rd.then_ R_ad.out hb)
  replace R_f := hide (Rd.then_ R_f.out hb)
  replace R_r := hide (Rd.then_ R_r.out hb)
  replace R_rd := hide (Rd.then_ R_rd.out hb)
  have U1 : Below W.heap.size W w1 := Below.then_ U0 hb
  replace B := hide (Below.then_ B.out hb)
  clear hb
  go_wp2_with fail
  refine (rsign3_any R_a.out g_a R_ad.out g_ad (Nat.le_refl _) hk.out).mono ?_
  rintro e w2 ⟨rfl, hb⟩
  replace R_a := hide (Rd.then_ R_a.out hb)
  replace R_ad := hide (Rd.then_ R_ad.out hb)
  replace R_f := hide (Rd.then_ R_f.out hb)
  replace R_r := hide (Rd.then_ R_r.out hb)
  replace R_rd := hide (Rd.then_ R_rd.out hb)
  have U2 : Below W.heap.size W w2 := Below.then_ U1 hb
  replace B := hide (Below.then_ B.out hb)
  clear hb
  have hbx : Below w2.heap.size w2 ((w2.alloc (.cells #[.int .u32 1] 46)).alloc (.cells #[.int .u32 2] 46)) := (((Below.refl _ _).alloc (Nat.le_refl _) _).alloc (by simp) _)
  go_wp2_with fail
  obtain ⟨V2, hV⟩ : ∃ V, V = ((w2.alloc (.cells #[.int .u32 1] 46)).alloc (.cells #[.int .u32 2] 46)) := ⟨_, rfl⟩
  obtain ⟨g_o, hg_o⟩ : ∃ g, g = w2.heap.size := ⟨_, rfl⟩
  obtain ⟨g_t, hg_t⟩ : ∃ g, g = w2.heap.size + 1 := ⟨_, rfl⟩
  rw [← hV]
  rw [← hV] at hbx
  rw [← hg_t]
  rw [← hg_o]
  have R_o : Rd V2 V2.heap.size (some ⟨g_o, 0, none⟩) 1 1 [1] := by rw [hV]; exact (Rd.al_ (Rd.limb1 _ hg_o (by omega) rfl))
  replace R_o := hide R_o
  have R_t : Rd V2 V2.heap.size (some ⟨g_t, 0, none⟩) 1 1 [2] := by rw [hV]; exact (Rd.limb1 _ (by rw [hg_t]; simp) (by omega) rfl)
  replace R_t := hide R_t
  clear hV hg_o hg_t
  replace R_a := hide (Rd.then_ R_a.out hbx)
  replace R_ad := hide (Rd.then_ R_ad.out hbx)
  replace R_f := hide (Rd.then_ R_f.out hbx)
  replace R_r := hide (Rd.then_ R_r.out hbx)
  replace R_rd := hide (Rd.then_ R_rd.out hbx)
  have U3 : Below W.heap.size W V2 := Below.then_ U2 hbx
  replace B := hide (Below.then_ B.out hbx)
  clear hbx
  refine (rcmp3_any (s_b := false) R_r.out g_r R_rd.out g_rd R_o.out (by omega) R_t.out (by omega) (Nat.le_refl _) e_c.out).mono ?_
  rintro e w3 ⟨rfl, hb⟩
  replace R_a := hide (Rd.then_ R_a.out hb)
  replace R_ad := hide (Rd.then_ R_ad.out hb)
  replace R_f := hide (Rd.then_ R_f.out hb)
  replace R_r := hide (Rd.then_ R_r.out hb)
  replace R_rd := hide (Rd.then_ R_rd.out hb)
  replace R_o := hide (Rd.then_ R_o.out hb)
  replace R_t := hide (Rd.then_ R_t.out hb)
  have U4 : Below W.heap.size W w3 := Below.then_ U3 hb
  replace B := hide (Below.then_ B.out hb)
  clear hb
  go_wp2
  go_ret
  exact ⟨rfl, B.out⟩

set_option maxHeartbeats 4000000 in
theorem up_3n {w : World} {Bd : Nat} {A_a : Option Addr} {n_a c_a : Nat} {x_a : List Nat} {s_a : Bool} {A_ad : Option Addr} {n_ad c_ad : Nat} {x_ad : List Nat} {A_f : Option Addr} {n_f c_f : Nat} {x_f : List Nat} {s_f : Bool} {A_r : Option Addr} {n_r c_r : Nat} {x_r : List Nat} {s_r : Bool} {A_rd : Option Addr} {n_rd c_rd : Nat} {x_rd : List Nat} (h_a : Rd w Bd A_a n_a c_a x_a) (g_a : n_a ≤ 1000000000) (h_ad : Rd w Bd A_ad n_ad c_ad x_ad) (g_ad : n_ad ≤ 1000000000) (h_f : Rd w Bd A_f n_f c_f x_f) (_g_f : n_f ≤ 1000000000) (h_r : Rd w Bd A_r n_r c_r x_r) (g_r : n_r ≤ 1000000000) (h_rd : Rd w Bd A_rd n_rd c_rd x_rd) (g_rd : n_rd ≤ 1000000000) (hB : Bd ≤ w.heap.size) {j k : Int} (hj : sgn (qv s_r (val x_r) (val x_rd)).num = j) (hj0 : j ≠ 0) (hk : sgn (qv s_a (val x_a) (val x_ad)).num = k) {c : Int} (hc : sgn (qv s_r (val x_r) (val x_rd) - mkRat 1 2).num = c) (hc0 : c ≠ 0) :
    Calls Tryz.prog 46 #[.agg #[.bool s_a, .slice A_a n_a c_a, .slice A_ad n_ad c_ad], .agg #[.bool s_f, .slice A_f n_f c_f], .agg #[.bool s_r, .slice A_r n_r c_r, .slice A_rd n_rd c_rd], .int .i64 3] w (RetB w (.bool (decide (0 < c)))) := by
  have ej : (j == 0) = false := by simpa using hj0
  clear hj0
  replace hk := hide hk
  replace hj := hide hj
  have ec : (c != 0) = true := by simpa using hc0
  clear hc0
  obtain ⟨d, hd⟩ : ∃ d, decide (0 < c) = d := ⟨_, rfl⟩
  rw [hd]
  have e_c : sgn (qv s_r (val x_r) (val x_rd) - qv false (val [1]) (val [2])).num = c := hc
  replace e_c := hide e_c
  clear hc
  obtain ⟨W, hW⟩ : ∃ W, W = (((w.alloc (.cells #[.bool s_a, .slice A_a n_a c_a, .slice A_ad n_ad c_ad] 27)).alloc (.cells #[.bool s_f, .slice A_f n_f c_f] 25)).alloc (.cells #[.bool s_r, .slice A_r n_r c_r, .slice A_rd n_rd c_rd] 27)) := ⟨_, rfl⟩
  have b_a : Box3 W (w.heap.size) (.bool s_a) (.slice A_a n_a c_a) (.slice A_ad n_ad c_ad) := by rw [hW]; exact (((Box3.new w _ _ _ rfl).al _).al _)
  have b_f : Box W (w.heap.size + 1) (.bool s_f) (.slice A_f n_f c_f) := by rw [hW]; exact ((Box.new _ _ _ (by simp)).al _)
  have b_r : Box3 W (w.heap.size + 1 + 1) (.bool s_r) (.slice A_r n_r c_r) (.slice A_rd n_rd c_rd) := by rw [hW]; exact (Box3.new _ _ _ _ (by simp))
  have hwW : Below w.heap.size w W := by rw [hW]; exact ((((Below.refl _ _).alloc (Nat.le_refl _) _).alloc (by simp) _).alloc (by simp; omega) _)
  have R_a := hide (Rd.upto h_a hwW hB)
  clear h_a
  have R_ad := hide (Rd.upto h_ad hwW hB)
  clear h_ad
  have R_f := hide (Rd.upto h_f hwW hB)
  clear h_f
  have R_r := hide (Rd.upto h_r hwW hB)
  clear h_r
  have R_rd := hide (Rd.upto h_rd hwW hB)
  clear h_rd
  have B := hide hwW
  clear hwW
  clear hB
  have U0 : Below W.heap.size W W := Below.refl _ _
  have c_a0 := b_a.at0 b_a.lt_size (Nat.le_refl _)
  have c_a1 := b_a.at1 b_a.lt_size (Nat.le_refl _)
  have c_a2 := b_a.at2 b_a.lt_size (Nat.le_refl _)
  replace b_a := hide b_a
  have c_f0 := b_f.at0 b_f.lt_size (Nat.le_refl _)
  have c_f1 := b_f.at1 b_f.lt_size (Nat.le_refl _)
  replace b_f := hide b_f
  have c_r0 := b_r.at0 b_r.lt_size (Nat.le_refl _)
  have c_r1 := b_r.at1 b_r.lt_size (Nat.le_refl _)
  have c_r2 := b_r.at2 b_r.lt_size (Nat.le_refl _)
  replace b_r := hide b_r
  go_enter Tryz.func46, Tryz.ntmps46
  go_wp2_with fail
  rw [← hW]
  clear hW
  refine (rsign3_any R_r.out g_r R_rd.out g_rd (Nat.le_refl _) hj.out).mono ?_
  rintro e w1 ⟨rfl, hb⟩
  replace R_a := hide (Rd.then_ R_a.out hb)
  replace R_ad := hide (Rd.then_ R_ad.out hb)
  replace R_f := hide (Rd.then_ R_f.out hb)
  replace R_r := hide (Rd.then_ R_r.out hb)
  replace R_rd := hide (Rd.then_ R_rd.out hb)
  have U1 : Below W.heap.size W w1 := Below.then_ U0 hb
  replace B := hide (Below.then_ B.out hb)
  clear hb
  go_wp2_with fail
  refine (rsign3_any R_a.out g_a R_ad.out g_ad (Nat.le_refl _) hk.out).mono ?_
  rintro e w2 ⟨rfl, hb⟩
  replace R_a := hide (Rd.then_ R_a.out hb)
  replace R_ad := hide (Rd.then_ R_ad.out hb)
  replace R_f := hide (Rd.then_ R_f.out hb)
  replace R_r := hide (Rd.then_ R_r.out hb)
  replace R_rd := hide (Rd.then_ R_rd.out hb)
  have U2 : Below W.heap.size W w2 := Below.then_ U1 hb
  replace B := hide (Below.then_ B.out hb)
  clear hb
  have hbx : Below w2.heap.size w2 ((w2.alloc (.cells #[.int .u32 1] 46)).alloc (.cells #[.int .u32 2] 46)) := (((Below.refl _ _).alloc (Nat.le_refl _) _).alloc (by simp) _)
  go_wp2_with fail
  obtain ⟨V2, hV⟩ : ∃ V, V = ((w2.alloc (.cells #[.int .u32 1] 46)).alloc (.cells #[.int .u32 2] 46)) := ⟨_, rfl⟩
  obtain ⟨g_o, hg_o⟩ : ∃ g, g = w2.heap.size := ⟨_, rfl⟩
  obtain ⟨g_t, hg_t⟩ : ∃ g, g = w2.heap.size + 1 := ⟨_, rfl⟩
  rw [← hV]
  rw [← hV] at hbx
  rw [← hg_t]
  rw [← hg_o]
  have R_o : Rd V2 V2.heap.size (some ⟨g_o, 0, none⟩) 1 1 [1] := by rw [hV]; exact (Rd.al_ (Rd.limb1 _ hg_o (by omega) rfl))
  replace R_o := hide R_o
  have R_t : Rd V2 V2.heap.size (some ⟨g_t, 0, none⟩) 1 1 [2] := by rw [hV]; exact (Rd.limb1 _ (by rw [hg_t]; simp) (by omega) rfl)
  replace R_t := hide R_t
  clear hV hg_o hg_t
  replace R_a := hide (Rd.then_ R_a.out hbx)
  replace R_ad := hide (Rd.then_ R_ad.out hbx)
  replace R_f := hide (Rd.then_ R_f.out hbx)
  replace R_r := hide (Rd.then_ R_r.out hbx)
  replace R_rd := hide (Rd.then_ R_rd.out hbx)
  have U3 : Below W.heap.size W V2 := Below.then_ U2 hbx
  replace B := hide (Below.then_ B.out hbx)
  clear hbx
  refine (rcmp3_any (s_b := false) R_r.out g_r R_rd.out g_rd R_o.out (by omega) R_t.out (by omega) (Nat.le_refl _) e_c.out).mono ?_
  rintro e w3 ⟨rfl, hb⟩
  replace R_a := hide (Rd.then_ R_a.out hb)
  replace R_ad := hide (Rd.then_ R_ad.out hb)
  replace R_f := hide (Rd.then_ R_f.out hb)
  replace R_r := hide (Rd.then_ R_r.out hb)
  replace R_rd := hide (Rd.then_ R_rd.out hb)
  replace R_o := hide (Rd.then_ R_o.out hb)
  replace R_t := hide (Rd.then_ R_t.out hb)
  have U4 : Below W.heap.size W w3 := Below.then_ U3 hb
  replace B := hide (Below.then_ B.out hb)
  clear hb
  go_wp2
  go_ret
  exact ⟨rfl, B.out⟩

set_option maxHeartbeats 4000000 in
theorem up_1e0 {w : World} {Bd : Nat} {A_a : Option Addr} {n_a c_a : Nat} {x_a : List Nat} {s_a : Bool} {A_ad : Option Addr} {n_ad c_ad : Nat} {x_ad : List Nat} {A_f : Option Addr} {n_f c_f : Nat} {x_f : List Nat} {s_f : Bool} {A_r : Option Addr} {n_r c_r : Nat} {x_r : List Nat} {s_r : Bool} {A_rd : Option Addr} {n_rd c_rd : Nat} {x_rd : List Nat} (h_a : Rd w Bd A_a n_a c_a x_a) (g_a : n_a ≤ 1000000000) (h_ad : Rd w Bd A_ad n_ad c_ad x_ad) (g_ad : n_ad ≤ 1000000000) (h_f : Rd w Bd A_f n_f c_f x_f) (g_f : n_f ≤ 1000000000) (h_r : Rd w Bd A_r n_r c_r x_r) (g_r : n_r ≤ 1000000000) (h_rd : Rd w Bd A_rd n_rd c_rd x_rd) (g_rd : n_rd ≤ 1000000000) (hB : Bd ≤ w.heap.size) {j k : Int} (hj : sgn (qv s_r (val x_r) (val x_rd)).num = j) (hj0 : j ≠ 0) (hk : sgn (qv s_a (val x_a) (val x_ad)).num = k) {c : Int} (hc : sgn (qv s_r (val x_r) (val x_rd) - mkRat 1 2).num = c) (hc0 : c = 0) (hn : n_f = 0) :
    Calls Tryz.prog 46 #[.agg #[.bool s_a, .slice A_a n_a c_a, .slice A_ad n_ad c_ad], .agg #[.bool s_f, .slice A_f n_f c_f], .agg #[.bool s_r, .slice A_r n_r c_r, .slice A_rd n_rd c_rd], .int .i64 1] w (RetB w (.bool (false))) := by
  subst hn
  have ej : (j == 0) = false := by simpa using hj0
  clear hj0
  replace hk := hide hk
  replace hj := hide hj
  subst hc0
  have e_c : sgn (qv s_r (val x_r) (val x_rd) - qv false (val [1]) (val [2])).num = 0 := hc
  replace e_c := hide e_c
  clear hc
  obtain ⟨W, hW⟩ : ∃ W, W = (((w.alloc (.cells #[.bool s_a, .slice A_a n_a c_a, .slice A_ad n_ad c_ad] 27)).alloc (.cells #[.bool s_f, .slice A_f 0 c_f] 25)).alloc (.cells #[.bool s_r, .slice A_r n_r c_r, .slice A_rd n_rd c_rd] 27)) := ⟨_, rfl⟩
  have b_a : Box3 W (w.heap.size) (.bool s_a) (.slice A_a n_a c_a) (.slice A_ad n_ad c_ad) := by rw [hW]; exact (((Box3.new w _ _ _ rfl).al _).al _)
  have b_f : Box W (w.heap.size + 1) (.bool s_f) (.slice A_f 0 c_f) := by rw [hW]; exact ((Box.new _ _ _ (by simp)).al _)
  have b_r : Box3 W (w.heap.size + 1 + 1) (.bool s_r) (.slice A_r n_r c_r) (.slice A_rd n_rd c_rd) := by rw [hW]; exact (Box3.new _ _ _ _ (by simp))
  have hwW : Below w.heap.size w W := by rw [hW]; exact ((((Below.refl _ _).alloc (Nat.le_refl _) _).alloc (by simp) _).alloc (by simp; omega) _)
  have R_a := hide (Rd.upto h_a hwW hB)
  clear h_a
  have R_ad := hide (Rd.upto h_ad hwW hB)
  clear h_ad
  have R_f := hide (Rd.upto h_f hwW hB)
  clear h_f
  have R_r := hide (Rd.upto h_r hwW hB)
  clear h_r
  have R_rd := hide (Rd.upto h_rd hwW hB)
  clear h_rd
  have B := hide hwW
  clear hwW
  clear hB
  have U0 : Below W.heap.size W W := Below.refl _ _
  have c_a0 := b_a.at0 b_a.lt_size (Nat.le_refl _)
  have c_a1 := b_a.at1 b_a.lt_size (Nat.le_refl _)
  have c_a2 := b_a.at2 b_a.lt_size (Nat.le_refl _)
  replace b_a := hide b_a
  have c_f0 := b_f.at0 b_f.lt_size (Nat.le_refl _)
  have c_f1 := b_f.at1 b_f.lt_size (Nat.le_refl _)
  replace b_f := hide b_f
  have c_r0 := b_r.at0 b_r.lt_size (Nat.le_refl _)
  have c_r1 := b_r.at1 b_r.lt_size (Nat.le_refl _)
  have c_r2 := b_r.at2 b_r.lt_size (Nat.le_refl _)
  replace b_r := hide b_r
  go_enter Tryz.func46, Tryz.ntmps46
  go_wp2_with fail
  rw [← hW]
  clear hW
  refine (rsign3_any R_r.out g_r R_rd.out g_rd (Nat.le_refl _) hj.out).mono ?_
  rintro e w1 ⟨rfl, hb⟩
  replace R_a := hide (Rd.then_ R_a.out hb)
  replace R_ad := hide (Rd.then_ R_ad.out hb)
  replace R_f := hide (Rd.then_ R_f.out hb)
  replace R_r := hide (Rd.then_ R_r.out hb)
  replace R_rd := hide (Rd.then_ R_rd.out hb)
  have U1 : Below W.heap.size W w1 := Below.then_ U0 hb
  replace B := hide (Below.then_ B.out hb)
  clear hb
  go_wp2_with fail
  refine (rsign3_any R_a.out g_a R_ad.out g_ad (Nat.le_refl _) hk.out).mono ?_
  rintro e w2 ⟨rfl, hb⟩
  replace R_a := hide (Rd.then_ R_a.out hb)
  replace R_ad := hide (Rd.then_ R_ad.out hb)
  replace R_f := hide (Rd.then_ R_f.out hb)
  replace R_r := hide (Rd.then_ R_r.out hb)
  replace R_rd := hide (Rd.then_ R_rd.out hb)
  have U2 : Below W.heap.size W w2 := Below.then_ U1 hb
  replace B := hide (Below.then_ B.out hb)
  clear hb
  have hbx : Below w2.heap.size w2 ((w2.alloc (.cells #[.int .u32 1] 46)).alloc (.cells #[.int .u32 2] 46)) := (((Below.refl _ _).alloc (Nat.le_refl _) _).alloc (by simp) _)
  go_wp2_with fail
  obtain ⟨V2, hV⟩ : ∃ V, V = ((w2.alloc (.cells #[.int .u32 1] 46)).alloc (.cells #[.int .u32 2] 46)) := ⟨_, rfl⟩
  obtain ⟨g_o, hg_o⟩ : ∃ g, g = w2.heap.size := ⟨_, rfl⟩
  obtain ⟨g_t, hg_t⟩ : ∃ g, g = w2.heap.size + 1 := ⟨_, rfl⟩
  rw [← hV]
  rw [← hV] at hbx
  rw [← hg_t]
  rw [← hg_o]
  have R_o : Rd V2 V2.heap.size (some ⟨g_o, 0, none⟩) 1 1 [1] := by rw [hV]; exact (Rd.al_ (Rd.limb1 _ hg_o (by omega) rfl))
  replace R_o := hide R_o
  have R_t : Rd V2 V2.heap.size (some ⟨g_t, 0, none⟩) 1 1 [2] := by rw [hV]; exact (Rd.limb1 _ (by rw [hg_t]; simp) (by omega) rfl)
  replace R_t := hide R_t
  clear hV hg_o hg_t
  replace R_a := hide (Rd.then_ R_a.out hbx)
  replace R_ad := hide (Rd.then_ R_ad.out hbx)
  replace R_f := hide (Rd.then_ R_f.out hbx)
  replace R_r := hide (Rd.then_ R_r.out hbx)
  replace R_rd := hide (Rd.then_ R_rd.out hbx)
  have U3 : Below W.heap.size W V2 := Below.then_ U2 hbx
  replace B := hide (Below.then_ B.out hbx)
  clear hbx
  refine (rcmp3_any (s_b := false) R_r.out g_r R_rd.out g_rd R_o.out (by omega) R_t.out (by omega) (Nat.le_refl _) e_c.out).mono ?_
  rintro e w3 ⟨rfl, hb⟩
  replace R_a := hide (Rd.then_ R_a.out hb)
  replace R_ad := hide (Rd.then_ R_ad.out hb)
  replace R_f := hide (Rd.then_ R_f.out hb)
  replace R_r := hide (Rd.then_ R_r.out hb)
  replace R_rd := hide (Rd.then_ R_rd.out hb)
  replace R_o := hide (Rd.then_ R_o.out hb)
  replace R_t := hide (Rd.then_ R_t.out hb)
  have U4 : Below W.heap.size W w3 := Below.then_ U3 hb
  replace B := hide (Below.then_ B.out hb)
  clear hb
  go_wp2
  go_ret
  exact ⟨rfl, B.out⟩

set_option maxHeartbeats 4000000 in
theorem up_1e1 {w : World} {Bd : Nat} {A_a : Option Addr} {n_a c_a : Nat} {x_a : List Nat} {s_a : Bool} {A_ad : Option Addr} {n_ad c_ad : Nat} {x_ad : List Nat} {A_f : Option Addr} {n_f c_f : Nat} {x_f : List Nat} {s_f : Bool} {A_r : Option Addr} {n_r c_r : Nat} {x_r : List Nat} {s_r : Bool} {A_rd : Option Addr} {n_rd c_rd : Nat} {x_rd : List Nat} (h_a : Rd w Bd A_a n_a c_a x_a) (g_a : n_a ≤ 1000000000) (h_ad : Rd w Bd A_ad n_ad c_ad x_ad) (g_ad : n_ad ≤ 1000000000) (h_f : Rd w Bd A_f n_f c_f x_f) (_g_f : n_f ≤ 1000000000) (h_r : Rd w Bd A_r n_r c_r x_r) (g_r : n_r ≤ 1000000000) (h_rd : Rd w Bd A_rd n_rd c_rd x_rd) (g_rd : n_rd ≤ 1000000000) (hB : Bd ≤ w.heap.size) {j k : Int} (hj : sgn (qv s_r (val x_r) (val x_rd)).num = j) (hj0 : j ≠ 0) (hk : sgn (qv s_a (val x_a) (val x_ad)).num = k) {c : Int} (hc : sgn (qv s_r (val x_r) (val x_rd) - mkRat 1 2).num = c) (hc0 : c = 0) {b : Bool} (hn : 0 < n_f) (hb : (lm x_f 0 % 2 == 1) = b) :
    Calls Tryz.prog 46 #[.agg #[.bool s_a, .slice A_a n_a c_a, .slice A_ad n_ad c_ad], .agg #[.bool s_f, .slice A_f n_f c_f], .agg #[.bool s_r, .slice A_r n_r c_r, .slice A_rd n_rd c_rd], .int .i64 1] w (RetB w (.bool (b))) := by
  obtain ⟨aa, hA, haab, hca⟩ := h_f.at_ (k := 0) (by omega)
  subst hA
  have hcap := h_f.cap
  have hbig := h_f.big
  have hl := h_f.limbs 0
  have e1 : ((((lm x_f 0 : Nat) : Int) % 2) == 1) = b := by have h2 : ((lm x_f 0 : Nat) : Int) % 2 = ((lm x_f 0 % 2 : Nat) : Int) := by omega
                                                            rw [h2, ← hb]; rcases (show lm x_f 0 % 2 = 0 ∨ lm x_f 0 % 2 = 1 by omega) with e | e <;> rw [e] <;> rfl
  clear hb
  have ej : (j == 0) = false := by simpa using hj0
  clear hj0
  replace hk := hide hk
  replace hj := hide hj
  subst hc0
  have e_c : sgn (qv s_r (val x_r) (val x_rd) - qv false (val [1]) (val [2])).num = 0 := hc
  replace e_c := hide e_c
  clear hc
  have hBB := hB
  obtain ⟨W, hW⟩ : ∃ W, W = (((w.alloc (.cells #[.bool s_a, .slice A_a n_a c_a, .slice A_ad n_ad c_ad] 27)).alloc (.cells #[.bool s_f, .slice (some aa) n_f c_f] 25)).alloc (.cells #[.bool s_r, .slice A_r n_r c_r, .slice A_rd n_rd c_rd] 27)) := ⟨_, rfl⟩
  have b_a : Box3 W (w.heap.size) (.bool s_a) (.slice A_a n_a c_a) (.slice A_ad n_ad c_ad) := by rw [hW]; exact (((Box3.new w _ _ _ rfl).al _).al _)
  have b_f : Box W (w.heap.size + 1) (.bool s_f) (.slice (some aa) n_f c_f) := by rw [hW]; exact ((Box.new _ _ _ (by simp)).al _)
  have b_r : Box3 W (w.heap.size + 1 + 1) (.bool s_r) (.slice A_r n_r c_r) (.slice A_rd n_rd c_rd) := by rw [hW]; exact (Box3.new _ _ _ _ (by simp))
  have hwW : Below w.heap.size w W := by rw [hW]; exact ((((Below.refl _ _).alloc (Nat.le_refl _) _).alloc (by simp) _).alloc (by simp; omega) _)
  have R_a := hide (Rd.upto h_a hwW hB)
  clear h_a
  have R_ad := hide (Rd.upto h_ad hwW hB)
  clear h_ad
  have R_f := hide (Rd.upto h_f hwW hB)
  clear h_f
  have R_r := hide (Rd.upto h_r hwW hB)
  clear h_r
  have R_rd := hide (Rd.upto h_rd hwW hB)
  clear h_rd
  have B := hide hwW
  clear hwW
  clear hB
  have U0 : Below W.heap.size W W := Below.refl _ _
  have c_a0 := b_a.at0 b_a.lt_size (Nat.le_refl _)
  have c_a1 := b_a.at1 b_a.lt_size (Nat.le_refl _)
  have c_a2 := b_a.at2 b_a.lt_size (Nat.le_refl _)
  replace b_a := hide b_a
  have c_f0 := b_f.at0 b_f.lt_size (Nat.le_refl _)
  have c_f1 := b_f.at1 b_f.lt_size (Nat.le_refl _)
  replace b_f := hide b_f
  have c_r0 := b_r.at0 b_r.lt_size (Nat.le_refl _)
  have c_r1 := b_r.at1 b_r.lt_size (Nat.le_refl _)
  have c_r2 := b_r.at2 b_r.lt_size (Nat.le_refl _)
  replace b_r := hide b_r
  go_enter Tryz.func46, Tryz.ntmps46
  go_wp2_with fail
  rw [← hW]
  clear hW
  refine (rsign3_any R_r.out g_r R_rd.out g_rd (Nat.le_refl _) hj.out).mono ?_
  rintro e w1 ⟨rfl, hb⟩
  replace R_a := hide (Rd.then_ R_a.out hb)
  replace R_ad := hide (Rd.then_ R_ad.out hb)
  replace R_f := hide (Rd.then_ R_f.out hb)
  replace R_r := hide (Rd.then_ R_r.out hb)
  replace R_rd := hide (Rd.then_ R_rd.out hb)
  have U1 : Below W.heap.size W w1 := Below.then_ U0 hb
  replace B := hide (Below.then_ B.out hb)
  clear hb
  go_wp2_with fail
  refine (rsign3_any R_a.out g_a R_ad.out g_ad (Nat.le_refl _) hk.out).mono ?_
  rintro e w2 ⟨rfl, hb⟩
  replace R_a := hide (Rd.then_ R_a.out hb)
  replace R_ad := hide (Rd.then_ R_ad.out hb)
  replace R_f := hide (Rd.then_ R_f.out hb)
  replace R_r := hide (Rd.then_ R_r.out hb)
  replace R_rd := hide (Rd.then_ R_rd.out hb)
  have U2 : Below W.heap.size W w2 := Below.then_ U1 hb
  replace B := hide (Below.then_ B.out hb)
  clear hb
  have hbx : Below w2.heap.size w2 ((w2.alloc (.cells #[.int .u32 1] 46)).alloc (.cells #[.int .u32 2] 46)) := (((Below.refl _ _).alloc (Nat.le_refl _) _).alloc (by simp) _)
  go_wp2_with fail
  obtain ⟨V2, hV⟩ : ∃ V, V = ((w2.alloc (.cells #[.int .u32 1] 46)).alloc (.cells #[.int .u32 2] 46)) := ⟨_, rfl⟩
  obtain ⟨g_o, hg_o⟩ : ∃ g, g = w2.heap.size := ⟨_, rfl⟩
  obtain ⟨g_t, hg_t⟩ : ∃ g, g = w2.heap.size + 1 := ⟨_, rfl⟩
  rw [← hV]
  rw [← hV] at hbx
  rw [← hg_t]
  rw [← hg_o]
  have R_o : Rd V2 V2.heap.size (some ⟨g_o, 0, none⟩) 1 1 [1] := by rw [hV]; exact (Rd.al_ (Rd.limb1 _ hg_o (by omega) rfl))
  replace R_o := hide R_o
  have R_t : Rd V2 V2.heap.size (some ⟨g_t, 0, none⟩) 1 1 [2] := by rw [hV]; exact (Rd.limb1 _ (by rw [hg_t]; simp) (by omega) rfl)
  replace R_t := hide R_t
  clear hV hg_o hg_t
  replace R_a := hide (Rd.then_ R_a.out hbx)
  replace R_ad := hide (Rd.then_ R_ad.out hbx)
  replace R_f := hide (Rd.then_ R_f.out hbx)
  replace R_r := hide (Rd.then_ R_r.out hbx)
  replace R_rd := hide (Rd.then_ R_rd.out hbx)
  have U3 : Below W.heap.size W V2 := Below.then_ U2 hbx
  replace B := hide (Below.then_ B.out hbx)
  clear hbx
  refine (rcmp3_any (s_b := false) R_r.out g_r R_rd.out g_rd R_o.out (by omega) R_t.out (by omega) (Nat.le_refl _) e_c.out).mono ?_
  rintro e w3 ⟨rfl, hb⟩
  replace R_a := hide (Rd.then_ R_a.out hb)
  replace R_ad := hide (Rd.then_ R_ad.out hb)
  replace R_f := hide (Rd.then_ R_f.out hb)
  replace R_r := hide (Rd.then_ R_r.out hb)
  replace R_rd := hide (Rd.then_ R_rd.out hb)
  replace R_o := hide (Rd.then_ R_o.out hb)
  replace R_t := hide (Rd.then_ R_t.out hb)
  have U4 : Below W.heap.size W w3 := Below.then_ U3 hb
  replace B := hide (Below.then_ B.out hb)
  clear hb
  replace hca : w3.cell? aa = some (.int .u32 (lm x_f 0 : Int)) := (B.out.cell (p := aa.add 0) (Nat.lt_of_lt_of_le (by rw [block_add]; exact haab) hBB)).trans hca
  go_wp2
  go_ret
  exact ⟨rfl, B.out⟩

set_option maxHeartbeats 4000000 in
theorem up_2e {w : World} {Bd : Nat} {A_a : Option Addr} {n_a c_a : Nat} {x_a : List Nat} {s_a : Bool} {A_ad : Option Addr} {n_ad c_ad : Nat} {x_ad : List Nat} {A_f : Option Addr} {n_f c_f : Nat} {x_f : List Nat} {s_f : Bool} {A_r : Option Addr} {n_r c_r : Nat} {x_r : List Nat} {s_r : Bool} {A_rd : Option Addr} {n_rd c_rd : Nat} {x_rd : List Nat} (h_a : Rd w Bd A_a n_a c_a x_a) (g_a : n_a ≤ 1000000000) (h_ad : Rd w Bd A_ad n_ad c_ad x_ad) (g_ad : n_ad ≤ 1000000000) (h_f : Rd w Bd A_f n_f c_f x_f) (_g_f : n_f ≤ 1000000000) (h_r : Rd w Bd A_r n_r c_r x_r) (g_r : n_r ≤ 1000000000) (h_rd : Rd w Bd A_rd n_rd c_rd x_rd) (g_rd : n_rd ≤ 1000000000) (hB : Bd ≤ w.heap.size) {j k : Int} (hj : sgn (qv s_r (val x_r) (val x_rd)).num = j) (hj0 : j ≠ 0) (hk : sgn (qv s_a (val x_a) (val x_ad)).num = k) {c : Int} (hc : sgn (qv s_r (val x_r) (val x_rd) - mkRat 1 2).num = c) (hc0 : c = 0) :
    Calls Tryz.prog 46 #[.agg #[.bool s_a, .slice A_a n_a c_a, .slice A_ad n_ad c_ad], .agg #[.bool s_f, .slice A_f n_f c_f], .agg #[.bool s_r, .slice A_r n_r c_r, .slice A_rd n_rd c_rd], .int .i64 2] w (RetB w (.bool (!decide (k < 0)))) := by
  have ej : (j == 0) = false := by simpa using hj0
  clear hj0
  replace hk := hide hk
  replace hj := hide hj
  obtain ⟨b, hb⟩ : ∃ b, decide (k < 0) = b := ⟨_, rfl⟩
  rw [hb]
  subst hc0
  have e_c : sgn (qv s_r (val x_r) (val x_rd) - qv false (val [1]) (val [2])).num = 0 := hc
  replace e_c := hide e_c
  clear hc
  obtain ⟨W, hW⟩ : ∃ W, W = (((w.alloc (.cells #[.bool s_a, .slice A_a n_a c_a, .slice A_ad n_ad c_ad] 27)).alloc (.cells #[.bool s_f, .slice A_f n_f c_f] 25)).alloc (.cells #[.bool s_r, .slice A_r n_r c_r, .slice A_rd n_rd c_rd] 27)) := ⟨_, rfl⟩
  have b_a : Box3 W (w.heap.size) (.bool s_a) (.slice A_a n_a c_a) (.slice A_ad n_ad c_ad) := by rw [hW]; exact (((Box3.new w _ _ _ rfl).al _).al _)
  have b_f : Box W (w.heap.size + 1) (.bool s_f) (.slice A_f n_f c_f) := by rw [hW]; exact ((Box.new _ _ _ (by simp)).al _)
  have b_r : Box3 W (w.heap.size + 1 + 1) (.bool s_r) (.slice A_r n_r c_r) (.slice A_rd n_rd c_rd) := by rw [hW]; exact (Box3.new _ _ _ _ (by simp))
  have hwW : Below w.heap.size w W := by rw [hW]; exact ((((Below.refl _ _).alloc (Nat.le_refl _) _).alloc (by simp) _).alloc (by simp; omega) _)
  have R_a := hide (Rd.upto h_a hwW hB)
  clear h_a
  have R_ad := hide (Rd.upto h_ad hwW hB)
  clear h_ad
  have R_f := hide (Rd.upto h_f hwW hB)
  clear h_f
  have R_r := hide (Rd.upto h_r hwW hB)
  clear h_r
  have R_rd := hide (Rd.upto h_rd hwW hB)
  clear h_rd
  have B := hide hwW
  clear hwW
  clear hB
  have U0 : Below W.heap.size W W := Below.refl _ _
  have c_a0 := b_a.at0 b_a.lt_size (Nat.le_refl _)
  have c_a1 := b_a.at1 b_a.lt_size (Nat.le_refl _)
  have c_a2 := b_a.at2 b_a.lt_size (Nat.le_refl _)
  replace b_a := hide b_a
  have c_f0 := b_f.at0 b_f.lt_size (Nat.le_refl _)
  have c_f1 := b_f.at1 b_f.lt_size (Nat.le_refl _)
  replace b_f := hide b_f
  have c_r0 := b_r.at0 b_r.lt_size (Nat.le_refl _)
  have c_r1 := b_r.at1 b_r.lt_size (Nat.le_refl _)
  have c_r2 := b_r.at2 b_r.lt_size (Nat.le_refl _)
  replace b_r := hide b_r
  go_enter Tryz.func46, Tryz.ntmps46
  go_wp2_with fail
  rw [← hW]
  clear hW
  refine (rsign3_any R_r.out g_r R_rd.out g_rd (Nat.le_refl _) hj.out).mono ?_
  rintro e w1 ⟨rfl, hb⟩
  replace R_a := hide (Rd.then_ R_a.out hb)
  replace R_ad := hide (Rd.then_ R_ad.out hb)
  replace R_f := hide (Rd.then_ R_f.out hb)
  replace R_r := hide (Rd.then_ R_r.out hb)
  replace R_rd := hide (Rd.then_ R_rd.out hb)
  have U1 : Below W.heap.size W w1 := Below.then_ U0 hb
  replace B := hide (Below.then_ B.out hb)
  clear hb
  go_wp2_with fail
  refine (rsign3_any R_a.out g_a R_ad.out g_ad (Nat.le_refl _) hk.out).mono ?_
  rintro e w2 ⟨rfl, hb⟩
  replace R_a := hide (Rd.then_ R_a.out hb)
  replace R_ad := hide (Rd.then_ R_ad.out hb)
  replace R_f := hide (Rd.then_ R_f.out hb)
  replace R_r := hide (Rd.then_ R_r.out hb)
  replace R_rd := hide (Rd.then_ R_rd.out hb)
  have U2 : Below W.heap.size W w2 := Below.then_ U1 hb
  replace B := hide (Below.then_ B.out hb)
  clear hb
  have hbx : Below w2.heap.size w2 ((w2.alloc (.cells #[.int .u32 1] 46)).alloc (.cells #[.int .u32 2] 46)) := (((Below.refl _ _).alloc (Nat.le_refl _) _).alloc (by simp) _)
  go_wp2_with fail
  obtain ⟨V2, hV⟩ : ∃ V, V = ((w2.alloc (.cells #[.int .u32 1] 46)).alloc (.cells #[.int .u32 2] 46)) := ⟨_, rfl⟩
  obtain ⟨g_o, hg_o⟩ : ∃ g, g = w2.heap.size := ⟨_, rfl⟩
  obtain ⟨g_t, hg_t⟩ : ∃ g, g = w2.heap.size + 1 := ⟨_, rfl⟩
  rw [← hV]
  rw [← hV] at hbx
  rw [← hg_t]
  rw [← hg_o]
  have R_o : Rd V2 V2.heap.size (some ⟨g_o, 0, none⟩) 1 1 [1] := by rw [hV]; exact (Rd.al_ (Rd.limb1 _ hg_o (by omega) rfl))
  replace R_o := hide R_o
  have R_t : Rd V2 V2.heap.size (some ⟨g_t, 0, none⟩) 1 1 [2] := by rw [hV]; exact (Rd.limb1 _ (by rw [hg_t]; simp) (by omega) rfl)
  replace R_t := hide R_t
  clear hV hg_o hg_t
  replace R_a := hide (Rd.then_ R_a.out hbx)
  replace R_ad := hide (Rd.then_ R_ad.out hbx)
  replace R_f := hide (Rd.then_ R_f.out hbx)
  replace R_r := hide (Rd.then_ R_r.out hbx)
  replace R_rd := hide (Rd.then_ R_rd.out hbx)
  have U3 : Below W.heap.size W V2 := Below.then_ U2 hbx
  replace B := hide (Below.then_ B.out hbx)
  clear hbx
  refine (rcmp3_any (s_b := false) R_r.out g_r R_rd.out g_rd R_o.out (by omega) R_t.out (by omega) (Nat.le_refl _) e_c.out).mono ?_
  rintro e w3 ⟨rfl, hb⟩
  replace R_a := hide (Rd.then_ R_a.out hb)
  replace R_ad := hide (Rd.then_ R_ad.out hb)
  replace R_f := hide (Rd.then_ R_f.out hb)
  replace R_r := hide (Rd.then_ R_r.out hb)
  replace R_rd := hide (Rd.then_ R_rd.out hb)
  replace R_o := hide (Rd.then_ R_o.out hb)
  replace R_t := hide (Rd.then_ R_t.out hb)
  have U4 : Below W.heap.size W w3 := Below.then_ U3 hb
  replace B := hide (Below.then_ B.out hb)
  clear hb
  go_wp2
  go_ret
  exact ⟨rfl, B.out⟩

set_option maxHeartbeats 4000000 in
theorem up_3e {w : World} {Bd : Nat} {A_a : Option Addr} {n_a c_a : Nat} {x_a : List Nat} {s_a : Bool} {A_ad : Option Addr} {n_ad c_ad : Nat} {x_ad : List Nat} {A_f : Option Addr} {n_f c_f : Nat} {x_f : List Nat} {s_f : Bool} {A_r : Option Addr} {n_r c_r : Nat} {x_r : List Nat} {s_r : Bool} {A_rd : Option Addr} {n_rd c_rd : Nat} {x_rd : List Nat} (h_a : Rd w Bd A_a n_a c_a x_a) (g_a : n_a ≤ 1000000000) (h_ad : Rd w Bd A_ad n_ad c_ad x_ad) (g_ad : n_ad ≤ 1000000000) (h_f : Rd w Bd A_f n_f c_f x_f) (_g_f : n_f ≤ 1000000000) (h_r : Rd w Bd A_r n_r c_r x_r) (g_r : n_r ≤ 1000000000) (h_rd : Rd w Bd A_rd n_rd c_rd x_rd) (g_rd : n_rd ≤ 1000000000) (hB : Bd ≤ w.heap.size) {j k : Int} (hj : sgn (qv s_r (val x_r) (val x_rd)).num = j) (hj0 : j ≠ 0) (hk : sgn (qv s_a (val x_a) (val x_ad)).num = k) {c : Int} (hc : sgn (qv s_r (val x_r) (val x_rd) - mkRat 1 2).num = c) (hc0 : c = 0) :
    Calls Tryz.prog 46 #[.agg #[.bool s_a, .slice A_a n_a c_a, .slice A_ad n_ad c_ad], .agg #[.bool s_f, .slice A_f n_f c_f], .agg #[.bool s_r, .slice A_r n_r c_r, .slice A_rd n_rd c_rd], .int .i64 3] w (RetB w (.bool (decide (k < 0)))) := by
  have ej : (j == 0) = false := by simpa using hj0
  clear hj0
  replace hk := hide hk
  replace hj := hide hj
  obtain ⟨b, hb⟩ : ∃ b, decide (k < 0) = b := ⟨_, rfl⟩
  rw [hb]
  subst hc0
  have e_c : sgn (qv s_r (val x_r) (val x_rd) - qv false (val [1]) (val [2])).num = 0 := hc
  replace e_c := hide e_c
  clear hc
  obtain ⟨W, hW⟩ : ∃ W, W = (((w.alloc (.cells #[.bool s_a, .slice A_a n_a c_a, .slice A_ad n_ad c_ad] 27)).alloc (.cells #[.bool s_f, .slice A_f n_f c_f] 25)).alloc (.cells #[.bool s_r, .slice A_r n_r c_r, .slice A_rd n_rd c_rd] 27)) := ⟨_, rfl⟩
  have b_a : Box3 W (w.heap.size) (.bool s_a) (.slice A_a n_a c_a) (.slice A_ad n_ad c_ad) := by rw [hW]; exact (((Box3.new w _ _ _ rfl).al _).al _)
  have b_f : Box W (w.heap.size + 1) (.bool s_f) (.slice A_f n_f c_f) := by rw [hW]; exact ((Box.new _ _ _ (by simp)).al _)
  have b_r : Box3 W (w.heap.size + 1 + 1) (.bool s_r) (.slice A_r n_r c_r) (.slice A_rd n_rd c_rd) := by rw [hW]; exact (Box3.new _ _ _ _ (by simp))
  have hwW : Below w.heap.size w W := by rw [hW]; exact ((((Below.refl _ _).alloc (Nat.le_refl _) _).alloc (by simp) _).alloc (by simp; omega) _)
  have R_a := hide (Rd.upto h_a hwW hB)
  clear h_a
  have R_ad := hide (Rd.upto h_ad hwW hB)
  clear h_ad
  have R_f := hide (Rd.upto h_f hwW hB)
  clear h_f
  have R_r := hide (Rd.upto h_r hwW hB)
  clear h_r
  have R_rd := hide (Rd.upto h_rd hwW hB)
  clear h_rd
  have B := hide hwW
  clear hwW
  clear hB
  have U0 : Below W.heap.size W W := Below.refl _ _
  have c_a0 := b_a.at0 b_a.lt_size (Nat.le_refl _)
  have c_a1 := b_a.at1 b_a.lt_size (Nat.le_refl _)
  have c_a2 := b_a.at2 b_a.lt_size (Nat.le_refl _)
  replace b_a := hide b_a
  have c_f0 := b_f.at0 b_f.lt_size (Nat.le_refl _)
  have c_f1 := b_f.at1 b_f.lt_size (Nat.le_refl _)
  replace b_f := hide b_f
  have c_r0 := b_r.at0 b_r.lt_size (Nat.le_refl _)
  have c_r1 := b_r.at1 b_r.lt_size (Nat.le_refl _)
  have c_r2 := b_r.at2 b_r.lt_size (Nat.le_refl _)
  replace b_r := hide b_r
  go_enter Tryz.func46, Tryz.ntmps46
  go_wp2_with fail
  rw [← hW]
  clear hW
  refine (rsign3_any R_r.out g_r R_rd.out g_rd (Nat.le_refl _) hj.out).mono ?_
  rintro e w1 ⟨rfl, hb⟩
  replace R_a := hide (Rd.then_ R_a.out hb)
  replace R_ad := hide (Rd.then_ R_ad.out hb)
  replace R_f := hide (Rd.then_ R_f.out hb)
  replace R_r := hide (Rd.then_ R_r.out hb)
  replace R_rd := hide (Rd.then_ R_rd.out hb)
  have U1 : Below W.heap.size W w1 := Below.then_ U0 hb
  replace B := hide (Below.then_ B.out hb)
  clear hb
  go_wp2_with fail
  refine (rsign3_any R_a.out g_a R_ad.out g_ad (Nat.le_refl _) hk.out).mono ?_
  rintro e w2 ⟨rfl, hb⟩
  replace R_a := hide (Rd.then_ R_a.out hb)
  replace R_ad := hide (Rd.then_ R_ad.out hb)
  replace R_f := hide (Rd.then_ R_f.out hb)
  replace R_r := hide (Rd.then_ R_r.out hb)
  replace R_rd := hide (Rd.then_ R_rd.out hb)
  have U2 : Below W.heap.size W w2 := Below.then_ U1 hb
  replace B := hide (Below.then_ B.out hb)
  clear hb
  have hbx : Below w2.heap.size w2 ((w2.alloc (.cells #[.int .u32 1] 46)).alloc (.cells #[.int .u32 2] 46)) := (((Below.refl _ _).alloc (Nat.le_refl _) _).alloc (by simp) _)
  go_wp2_with fail
  obtain ⟨V2, hV⟩ : ∃ V, V = ((w2.alloc (.cells #[.int .u32 1] 46)).alloc (.cells #[.int .u32 2] 46)) := ⟨_, rfl⟩
  obtain ⟨g_o, hg_o⟩ : ∃ g, g = w2.heap.size := ⟨_, rfl⟩
  obtain ⟨g_t, hg_t⟩ : ∃ g, g = w2.heap.size + 1 := ⟨_, rfl⟩
  rw [← hV]
  rw [← hV] at hbx
  rw [← hg_t]
  rw [← hg_o]
  have R_o : Rd V2 V2.heap.size (some ⟨g_o, 0, none⟩) 1 1 [1] := by rw [hV]; exact (Rd.al_ (Rd.limb1 _ hg_o (by omega) rfl))
  replace R_o := hide R_o
  have R_t : Rd V2 V2.heap.size (some ⟨g_t, 0, none⟩) 1 1 [2] := by rw [hV]; exact (Rd.limb1 _ (by rw [hg_t]; simp) (by omega) rfl)
  replace R_t := hide R_t
  clear hV hg_o hg_t
  replace R_a := hide (Rd.then_ R_a.out hbx)
  replace R_ad := hide (Rd.then_ R_ad.out hbx)
  replace R_f := hide (Rd.then_ R_f.out hbx)
  replace R_r := hide (Rd.then_ R_r.out hbx)
  replace R_rd := hide (Rd.then_ R_rd.out hbx)
  have U3 : Below W.heap.size W V2 := Below.then_ U2 hbx
  replace B := hide (Below.then_ B.out hbx)
  clear hbx
  refine (rcmp3_any (s_b := false) R_r.out g_r R_rd.out g_rd R_o.out (by omega) R_t.out (by omega) (Nat.le_refl _) e_c.out).mono ?_
  rintro e w3 ⟨rfl, hb⟩
  replace R_a := hide (Rd.then_ R_a.out hb)
  replace R_ad := hide (Rd.then_ R_ad.out hb)
  replace R_f := hide (Rd.then_ R_f.out hb)
  replace R_r := hide (Rd.then_ R_r.out hb)
  replace R_rd := hide (Rd.then_ R_rd.out hb)
  replace R_o := hide (Rd.then_ R_o.out hb)
  replace R_t := hide (Rd.then_ R_t.out hb)
  have U4 : Below W.heap.size W w3 := Below.then_ U3 hb
  replace B := hide (Below.then_ B.out hb)
  clear hb
  go_wp2
  go_ret
  exact ⟨rfl, B.out⟩

set_option maxHeartbeats 4000000 in
theorem up_4 {w : World} {Bd : Nat} {A_a : Option Addr} {n_a c_a : Nat} {x_a : List Nat} {s_a : Bool} {A_ad : Option Addr} {n_ad c_ad : Nat} {x_ad : List Nat} {A_f : Option Addr} {n_f c_f : Nat} {x_f : List Nat} {s_f : Bool} {A_r : Option Addr} {n_r c_r : Nat} {x_r : List Nat} {s_r : Bool} {A_rd : Option Addr} {n_rd c_rd : Nat} {x_rd : List Nat} (h_a : Rd w Bd A_a n_a c_a x_a) (g_a : n_a ≤ 1000000000) (h_ad : Rd w Bd A_ad n_ad c_ad x_ad) (g_ad : n_ad ≤ 1000000000) (h_f : Rd w Bd A_f n_f c_f x_f) (_g_f : n_f ≤ 1000000000) (h_r : Rd w Bd A_r n_r c_r x_r) (g_r : n_r ≤ 1000000000) (h_rd : Rd w Bd A_rd n_rd c_rd x_rd) (g_rd : n_rd ≤ 1000000000) (hB : Bd ≤ w.heap.size) {j k : Int} (hj : sgn (qv s_r (val x_r) (val x_rd)).num = j) (hj0 : j ≠ 0) (hk : sgn (qv s_a (val x_a) (val x_ad)).num = k) :
    Calls Tryz.prog 46 #[.agg #[.bool s_a, .slice A_a n_a c_a, .slice A_ad n_ad c_ad], .agg #[.bool s_f, .slice A_f n_f c_f], .agg #[.bool s_r, .slice A_r n_r c_r, .slice A_rd n_rd c_rd], .int .i64 4] w (RetB w (.bool (!decide (k < 0)))) := by
  have ej : (j == 0) = false := by simpa using hj0
  clear hj0
  replace hk := hide hk
  replace hj := hide hj
  obtain ⟨b, hb⟩ : ∃ b, decide (k < 0) = b := ⟨_, rfl⟩
  rw [hb]
  obtain ⟨W, hW⟩ : ∃ W, W = (((w.alloc (.cells #[.bool s_a, .slice A_a n_a c_a, .slice A_ad n_ad c_ad] 27)).alloc (.cells #[.bool s_f, .slice A_f n_f c_f] 25)).alloc (.cells #[.bool s_r, .slice A_r n_r c_r, .slice A_rd n_rd c_rd] 27)) := ⟨_, rfl⟩
  have b_a : Box3 W (w.heap.size) (.bool s_a) (.slice A_a n_a c_a) (.slice A_ad n_ad c_ad) := by rw [hW]; exact (((Box3.new w _ _ _ rfl).al _).al _)
  have b_f : Box W (w.heap.size + 1) (.bool s_f) (.slice A_f n_f c_f) := by rw [hW]; exact ((Box.new _ _ _ (by simp)).al _)
  have b_r : Box3 W (w.heap.size + 1 + 1) (.bool s_r) (.slice A_r n_r c_r) (.slice A_rd n_rd c_rd) := by rw [hW]; exact (Box3.new _ _ _ _ (by simp))
  have hwW : Below w.heap.size w W := by rw [hW]; exact ((((Below.refl _ _).alloc (Nat.le_refl _) _).alloc (by simp) _).alloc (by simp; omega) _)
  have R_a := hide (Rd.upto h_a hwW hB)
  clear h_a
  have R_ad := hide (Rd.upto h_ad hwW hB)
  clear h_ad
  have R_f := hide (Rd.upto h_f hwW hB)
  clear h_f
  have R_r := hide (Rd.upto h_r hwW hB)
  clear h_r
  have R_rd := hide (Rd.upto h_rd hwW hB)
  clear h_rd
  have B := hide hwW
  clear hwW
  clear hB
  have U0 : Below W.heap.size W W := Below.refl _ _
  have c_a0 := b_a.at0 b_a.lt_size (Nat.le_refl _)
  have c_a1 := b_a.at1 b_a.lt_size (Nat.le_refl _)
  have c_a2 := b_a.at2 b_a.lt_size (Nat.le_refl _)
  replace b_a := hide b_a
  have c_f0 := b_f.at0 b_f.lt_size (Nat.le_refl _)
  have c_f1 := b_f.at1 b_f.lt_size (Nat.le_refl _)
  replace b_f := hide b_f
  have c_r0 := b_r.at0 b_r.lt_size (Nat.le_refl _)
  have c_r1 := b_r.at1 b_r.lt_size (Nat.le_refl _)
  have c_r2 := b_r.at2 b_r.lt_size (Nat.le_refl _)
  replace b_r := hide b_r
  go_enter Tryz.func46, Tryz.ntmps46
  go_wp2_with fail
  rw [← hW]
  clear hW
  refine (rsign3_any R_r.out g_r R_rd.out g_rd (Nat.le_refl _) hj.out).mono ?_
  rintro e w1 ⟨rfl, hb⟩
  replace R_a := hide (Rd.then_ R_a.out hb)
  replace R_ad := hide (Rd.then_ R_ad.out hb)
  replace R_f := hide (Rd.then_ R_f.out hb)
  replace R_r := hide (Rd.then_ R_r.out hb)
  replace R_rd := hide (Rd.then_ R_rd.out hb)
  have U1 : Below W.heap.size W w1 := Below.then_ U0 hb
  replace B := hide (Below.then_ B.out hb)
  clear hb
  go_wp2_with fail
  refine (rsign3_any R_a.out g_a R_ad.out g_ad (Nat.le_refl _) hk.out).mono ?_
  rintro e w2 ⟨rfl, hb⟩
  replace R_a := hide (Rd.then_ R_a.out hb)
  replace R_ad := hide (Rd.then_ R_ad.out hb)
  replace R_f := hide (Rd.then_ R_f.out hb)
  replace R_r := hide (Rd.then_ R_r.out hb)
  replace R_rd := hide (Rd.then_ R_rd.out hb)
  have U2 : Below W.heap.size W w2 := Below.then_ U1 hb
  replace B := hide (Below.then_ B.out hb)
  clear hb
  go_wp2
  go_ret
  exact ⟨rfl, B.out⟩

set_option maxHeartbeats 4000000 in
theorem up_5 {w : World} {Bd : Nat} {A_a : Option Addr} {n_a c_a : Nat} {x_a : List Nat} {s_a : Bool} {A_ad : Option Addr} {n_ad c_ad : Nat} {x_ad : List Nat} {A_f : Option Addr} {n_f c_f : Nat} {x_f : List Nat} {s_f : Bool} {A_r : Option Addr} {n_r c_r : Nat} {x_r : List Nat} {s_r : Bool} {A_rd : Option Addr} {n_rd c_rd : Nat} {x_rd : List Nat} (h_a : Rd w Bd A_a n_a c_a x_a) (g_a : n_a ≤ 1000000000) (h_ad : Rd w Bd A_ad n_ad c_ad x_ad) (g_ad : n_ad ≤ 1000000000) (h_f : Rd w Bd A_f n_f c_f x_f) (_g_f : n_f ≤ 1000000000) (h_r : Rd w Bd A_r n_r c_r x_r) (g_r : n_r ≤ 1000000000) (h_rd : Rd w Bd A_rd n_rd c_rd x_rd) (g_rd : n_rd ≤ 1000000000) (hB : Bd ≤ w.heap.size) {j k : Int} (hj : sgn (qv s_r (val x_r) (val x_rd)).num = j) (hj0 : j ≠ 0) (hk : sgn (qv s_a (val x_a) (val x_ad)).num = k) :
    Calls Tryz.prog 46 #[.agg #[.bool s_a, .slice A_a n_a c_a, .slice A_ad n_ad c_ad], .agg #[.bool s_f, .slice A_f n_f c_f], .agg #[.bool s_r, .slice A_r n_r c_r, .slice A_rd n_rd c_rd], .int .i64 5] w (RetB w (.bool (decide (k < 0)))) := by
  have ej : (j == 0) = false := by simpa using hj0
  clear hj0
  replace hk := hide hk
  replace hj := hide hj
  obtain ⟨b, hb⟩ : ∃ b, decide (k < 0) = b := ⟨_, rfl⟩
  rw [hb]
  obtain ⟨W, hW⟩ : ∃ W, W = (((w.alloc (.cells #[.bool s_a, .slice A_a n_a c_a, .slice A_ad n_ad c_ad] 27)).alloc (.cells #[.bool s_f, .slice A_f n_f c_f] 25)).alloc (.cells #[.bool s_r, .slice A_r n_r c_r, .slice A_rd n_rd c_rd] 27)) := ⟨_, rfl⟩
  have b_a : Box3 W (w.heap.size) (.bool s_a) (.slice A_a n_a c_a) (.slice A_ad n_ad c_ad) := by rw [hW]; exact (((Box3.new w _ _ _ rfl).al _).al _)
  have b_f : Box W (w.heap.size + 1) (.bool s_f) (.slice A_f n_f c_f) := by rw [hW]; exact ((Box.new _ _ _ (by simp)).al _)
  have b_r : Box3 W (w.heap.size + 1 + 1) (.bool s_r) (.slice A_r n_r c_r) (.slice A_rd n_rd c_rd) := by rw [hW]; exact (Box3.new _ _ _ _ (by simp))
  have hwW : Below w.heap.size w W := by rw [hW]; exact ((((Below.refl _ _).alloc (Nat.le_refl _) _).alloc (by simp) _).alloc (by simp; omega) _)
  have R_a := hide (Rd.upto h_a hwW hB)
  clear h_a
  have R_ad := hide (Rd.upto h_ad hwW hB)
  clear h_ad
  have R_f := hide (Rd.upto h_f hwW hB)
  clear h_f
  have R_r := hide (Rd.upto h_r hwW hB)
  clear h_r
  have R_rd := hide (Rd.upto h_rd hwW hB)
  clear h_rd
  have B := hide hwW
  clear hwW
  clear hB
  have U0 : Below W.heap.size W W := Below.refl _ _
  have c_a0 := b_a.at0 b_a.lt_size (Nat.le_refl _)
  have c_a1 := b_a.at1 b_a.lt_size (Nat.le_refl _)
  have c_a2 := b_a.at2 b_a.lt_size (Nat.le_refl _)
  replace b_a := hide b_a
  have c_f0 := b_f.at0 b_f.lt_size (Nat.le_refl _)
  have c_f1 := b_f.at1 b_f.lt_size (Nat.le_refl _)
  replace b_f := hide b_f
  have c_r0 := b_r.at0 b_r.lt_size (Nat.le_refl _)
  have c_r1 := b_r.at1 b_r.lt_size (Nat.le_refl _)
  have c_r2 := b_r.at2 b_r.lt_size (Nat.le_refl _)
  replace b_r := hide b_r
  go_enter Tryz.func46, Tryz.ntmps46
  go_wp2_with fail
  rw [← hW]
  clear hW
  refine (rsign3_any R_r.out g_r R_rd.out g_rd (Nat.le_refl _) hj.out).mono ?_
  rintro e w1 ⟨rfl, hb⟩
  replace R_a := hide (Rd.then_ R_a.out hb)
  replace R_ad := hide (Rd.then_ R_ad.out hb)
  replace R_f := hide (Rd.then_ R_f.out hb)
  replace R_r := hide (Rd.then_ R_r.out hb)
  replace R_rd := hide (Rd.then_ R_rd.out hb)
  have U1 : Below W.heap.size W w1 := Below.then_ U0 hb
  replace B := hide (Below.then_ B.out hb)
  clear hb
  go_wp2_with fail
  refine (rsign3_any R_a.out g_a R_ad.out g_ad (Nat.le_refl _) hk.out).mono ?_
  rintro e w2 ⟨rfl, hb⟩
  replace R_a := hide (Rd.then_ R_a.out hb)
  replace R_ad := hide (Rd.then_ R_ad.out hb)
  replace R_f := hide (Rd.then_ R_f.out hb)
  replace R_r := hide (Rd.then_ R_r.out hb)
  replace R_rd := hide (Rd.then_ R_rd.out hb)
  have U2 : Below W.heap.size W w2 := Below.then_ U1 hb
  replace B := hide (Below.then_ B.out hb)
  clear hb
  go_wp2
  go_ret
  exact ⟨rfl, B.out⟩

set_option maxHeartbeats 4000000 in
theorem up_6 {w : World} {Bd : Nat} {A_a : Option Addr} {n_a c_a : Nat} {x_a : List Nat} {s_a : Bool} {A_ad : Option Addr} {n_ad c_ad : Nat} {x_ad : List Nat} {A_f : Option Addr} {n_f c_f : Nat} {x_f : List Nat} {s_f : Bool} {A_r : Option Addr} {n_r c_r : Nat} {x_r : List Nat} {s_r : Bool} {A_rd : Option Addr} {n_rd c_rd : Nat} {x_rd : List Nat} (h_a : Rd w Bd A_a n_a c_a x_a) (g_a : n_a ≤ 1000000000) (h_ad : Rd w Bd A_ad n_ad c_ad x_ad) (g_ad : n_ad ≤ 1000000000) (h_f : Rd w Bd A_f n_f c_f x_f) (_g_f : n_f ≤ 1000000000) (h_r : Rd w Bd A_r n_r c_r x_r) (g_r : n_r ≤ 1000000000) (h_rd : Rd w Bd A_rd n_rd c_rd x_rd) (g_rd : n_rd ≤ 1000000000) (hB : Bd ≤ w.heap.size) {j k : Int} (hj : sgn (qv s_r (val x_r) (val x_rd)).num = j) (hj0 : j ≠ 0) (hk : sgn (qv s_a (val x_a) (val x_ad)).num = k) :
    Calls Tryz.prog 46 #[.agg #[.bool s_a, .slice A_a n_a c_a, .slice A_ad n_ad c_ad], .agg #[.bool s_f, .slice A_f n_f c_f], .agg #[.bool s_r, .slice A_r n_r c_r, .slice A_rd n_rd c_rd], .int .i64 6] w (RetB w (.bool (false))) := by
  have ej : (j == 0) = false := by simpa using hj0
  clear hj0
  replace hk := hide hk
  replace hj := hide hj
  obtain ⟨W, hW⟩ : ∃ W, W = (((w.alloc (.cells #[.bool s_a, .slice A_a n_a c_a, .slice A_ad n_ad c_ad] 27)).alloc (.cells #[.bool s_f, .slice A_f n_f c_f] 25)).alloc (.cells #[.bool s_r, .slice A_r n_r c_r, .slice A_rd n_rd c_rd] 27)) := ⟨_, rfl⟩
  have b_a : Box3 W (w.heap.size) (.bool s_a) (.slice A_a n_a c_a) (.slice A_ad n_ad c_ad) := by rw [hW]; exact (((Box3.new w _ _ _ rfl).al _).al _)
  have b_f : Box W (w.heap.size + 1) (.bool s_f) (.slice A_f n_f c_f) := by rw [hW]; exact ((Box.new _ _ _ (by simp)).al _)
  have b_r : Box3 W (w.heap.size + 1 + 1) (.bool s_r) (.slice A_r n_r c_r) (.slice A_rd n_rd c_rd) := by rw [hW]; exact (Box3.new _ _ _ _ (by simp))
  have hwW : Below w.heap.size w W := by rw [hW]; exact ((((Below.refl _ _).alloc (Nat.le_refl _) _).alloc (by simp) _).alloc (by simp; omega) _)
  have R_a := hide (Rd.upto h_a hwW hB)
  clear h_a
  have R_ad := hide (Rd.upto h_ad hwW hB)
  clear h_ad
  have R_f := hide (Rd.upto h_f hwW hB)
  clear h_f
  have R_r := hide (Rd.upto h_r hwW hB)
  clear h_r
  have R_rd := hide (Rd.upto h_rd hwW hB)
  clear h_rd
  have B := hide hwW
  clear hwW
  clear hB
  have U0 : Below W.heap.size W W := Below.refl _ _
  have c_a0 := b_a.at0 b_a.lt_size (Nat.le_refl _)
  have c_a1 := b_a.at1 b_a.lt_size (Nat.le_refl _)
  have c_a2 := b_a.at2 b_a.lt_size (Nat.le_refl _)
  replace b_a := hide b_a
  have c_f0 := b_f.at0 b_f.lt_size (Nat.le_refl _)
  have c_f1 := b_f.at1 b_f.lt_size (Nat.le_refl _)
  replace b_f := hide b_f
  have c_r0 := b_r.at0 b_r.lt_size (Nat.le_refl _)
  have c_r1 := b_r.at1 b_r.lt_size (Nat.le_refl _)
  have c_r2 := b_r.at2 b_r.lt_size (Nat.le_refl _)
  replace b_r := hide b_r
  go_enter Tryz.func46, Tryz.ntmps46
  go_wp2_with fail
  rw [← hW]
  clear hW
  refine (rsign3_any R_r.out g_r R_rd.out g_rd (Nat.le_refl _) hj.out).mono ?_
  rintro e w1 ⟨rfl, hb⟩
  replace R_a := hide (Rd.then_ R_a.out hb)
  replace R_ad := hide (Rd.then_ R_ad.out hb)
  replace R_f := hide (Rd.then_ R_f.out hb)
  replace R_r := hide (Rd.then_ R_r.out hb)
  replace R_rd := hide (Rd.then_ R_rd.out hb)
  have U1 : Below W.heap.size W w1 := Below.then_ U0 hb
  replace B := hide (Below.then_ B.out hb)
  clear hb
  go_wp2_with fail
  refine (rsign3_any R_a.out g_a R_ad.out g_ad (Nat.le_refl _) hk.out).mono ?_
  rintro e w2 ⟨rfl, hb⟩
  replace R_a := hide (Rd.then_ R_a.out hb)
  replace R_ad := hide (Rd.then_ R_ad.out hb)
  replace R_f := hide (Rd.then_ R_f.out hb)
  replace R_r := hide (Rd.then_ R_r.out hb)
  replace R_rd := hide (Rd.then_ R_rd.out hb)
  have U2 : Below W.heap.size W w2 := Below.then_ U1 hb
  replace B := hide (Below.then_ B.out hb)
  clear hb
  go_wp2
  go_ret
  exact ⟨rfl, B.out⟩

set_option maxHeartbeats 4000000 in
theorem up_7 {w : World} {Bd : Nat} {A_a : Option Addr} {n_a c_a : Nat} {x_a : List Nat} {s_a : Bool} {A_ad : Option Addr} {n_ad c_ad : Nat} {x_ad : List Nat} {A_f : Option Addr} {n_f c_f : Nat} {x_f : List Nat} {s_f : Bool} {A_r : Option Addr} {n_r c_r : Nat} {x_r : List Nat} {s_r : Bool} {A_rd : Option Addr} {n_rd c_rd : Nat} {x_rd : List Nat} (h_a : Rd w Bd A_a n_a c_a x_a) (g_a : n_a ≤ 1000000000) (h_ad : Rd w Bd A_ad n_ad c_ad x_ad) (g_ad : n_ad ≤ 1000000000) (h_f : Rd w Bd A_f n_f c_f x_f) (_g_f : n_f ≤ 1000000000) (h_r : Rd w Bd A_r n_r c_r x_r) (g_r : n_r ≤ 1000000000) (h_rd : Rd w Bd A_rd n_rd c_rd x_rd) (g_rd : n_rd ≤ 1000000000) (hB : Bd ≤ w.heap.size) {j k : Int} (hj : sgn (qv s_r (val x_r) (val x_rd)).num = j) (hj0 : j ≠ 0) (hk : sgn (qv s_a (val x_a) (val x_ad)).num = k) :
    Calls Tryz.prog 46 #[.agg #[.bool s_a, .slice A_a n_a c_a, .slice A_ad n_ad c_ad], .agg #[.bool s_f, .slice A_f n_f c_f], .agg #[.bool s_r, .slice A_r n_r c_r, .slice A_rd n_rd c_rd], .int .i64 7] w (RetB w (.bool (true))) := by
  have ej : (j == 0) = false := by simpa using hj0
  clear hj0
  replace hk := hide hk
  replace hj := hide hj
  obtain ⟨W, hW⟩ : ∃ W, W = (((w.alloc (.cells #[.bool s_a, .slice A_a n_a c_a, .slice A_ad n_ad c_ad] 27)).alloc (.cells #[.bool s_f, .slice A_f n_f c_f] 25)).alloc (.cells #[.bool s_r, .slice A_r n_r c_r, .slice A_rd n_rd c_rd] 27)) := ⟨_, rfl⟩
  have b_a : Box3 W (w.heap.size) (.bool s_a) (.slice A_a n_a c_a) (.slice A_ad n_ad c_ad) := by rw [hW]; exact (((Box3.new w _ _ _ rfl).al _).al _)
  have b_f : Box W (w.heap.size + 1) (.bool s_f) (.slice A_f n_f c_f) := by rw [hW]; exact ((Box.new _ _ _ (by simp)).al _)
  have b_r : Box3 W (w.heap.size + 1 + 1) (.bool s_r) (.slice A_r n_r c_r) (.slice A_rd n_rd c_rd) := by rw [hW]; exact (Box3.new _ _ _ _ (by simp))
  have hwW : Below w.heap.size w W := by rw [hW]; exact ((((Below.refl _ _).alloc (Nat.le_refl _) _).alloc (by simp) _).alloc (by simp; omega) _)
  have R_a := hide (Rd.upto h_a hwW hB)
  clear h_a
  have R_ad := hide (Rd.upto h_ad hwW hB)
  clear h_ad
  have R_f := hide (Rd.upto h_f hwW hB)
  clear h_f
  have R_r := hide (Rd.upto h_r hwW hB)
  clear h_r
  have R_rd := hide (Rd.upto h_rd hwW hB)
  clear h_rd
  have B := hide hwW
  clear hwW
  clear hB
  have U0 : Below W.heap.size W W := Below.refl _ _
  have c_a0 := b_a.at0 b_a.lt_size (Nat.le_refl _)
  have c_a1 := b_a.at1 b_a.lt_size (Nat.le_refl _)
  have c_a2 := b_a.at2 b_a.lt_size (Nat.le_refl _)
  replace b_a := hide b_a
  have c_f0 := b_f.at0 b_f.lt_size (Nat.le_refl _)
  have c_f1 := b_f.at1 b_f.lt_size (Nat.le_refl _)
  replace b_f := hide b_f
  have c_r0 := b_r.at0 b_r.lt_size (Nat.le_refl _)
  have c_r1 := b_r.at1 b_r.lt_size (Nat.le_refl _)
  have c_r2 := b_r.at2 b_r.lt_size (Nat.le_refl _)
  replace b_r := hide b_r
  go_enter Tryz.func46, Tryz.ntmps46
  go_wp2_with fail
  rw [← hW]
  clear hW
  refine (rsign3_any R_r.out g_r R_rd.out g_rd (Nat.le_refl _) hj.out).mono ?_
  rintro e w1 ⟨rfl, hb⟩
  replace R_a := hide (Rd.then_ R_a.out hb)
  replace R_ad := hide (Rd.then_ R_ad.out hb)
  replace R_f := hide (Rd.then_ R_f.out hb)
  replace R_r := hide (Rd.then_ R_r.out hb)
  replace R_rd := hide (Rd.then_ R_rd.out hb)
  have U1 : Below W.heap.size W w1 := Below.then_ U0 hb
  replace B := hide (Below.then_ B.out hb)
  clear hb
  go_wp2_with fail
  refine (rsign3_any R_a.out g_a R_ad.out g_ad (Nat.le_refl _) hk.out).mono ?_
  rintro e w2 ⟨rfl, hb⟩
  replace R_a := hide (Rd.then_ R_a.out hb)
  replace R_ad := hide (Rd.then_ R_ad.out hb)
  replace R_f := hide (Rd.then_ R_f.out hb)
  replace R_r := hide (Rd.then_ R_r.out hb)
  replace R_rd := hide (Rd.then_ R_rd.out hb)
  have U2 : Below W.heap.size W w2 := Below.then_ U1 hb
  replace B := hide (Below.then_ B.out hb)
  clear hb
  go_wp2
  go_ret
  exact ⟨rfl, B.out⟩

theorem up_any {w : World} {Bd : Nat} {A_a : Option Addr} {n_a c_a : Nat} {x_a : List Nat} {s_a : Bool} {A_ad : Option Addr} {n_ad c_ad : Nat} {x_ad : List Nat} {A_r : Option Addr} {n_r c_r : Nat} {x_r : List Nat} {s_r : Bool} {A_rd : Option Addr} {n_rd c_rd : Nat} {x_rd : List Nat} {A_f : Option Addr} {c_f : Nat} {f : Int} (h_a : Rd w Bd A_a n_a c_a x_a) (g_a : n_a ≤ 1000000000) (h_ad : Rd w Bd A_ad n_ad c_ad x_ad) (g_ad : n_ad ≤ 1000000000) (h_f : Rd w Bd A_f (dig (zmag f)).length c_f (dig (zmag f))) (g_f : (dig (zmag f)).length ≤ 1000000000) (h_r : Rd w Bd A_r n_r c_r x_r) (g_r : n_r ≤ 1000000000) (h_rd : Rd w Bd A_rd n_rd c_rd x_rd) (g_rd : n_rd ≤ 1000000000) (hB : Bd ≤ w.heap.size) {m : Int} (h1 : 1 ≤ m) (h7 : m ≤ 7) {x : Rat} {b : Bool} (hx : qv s_a (val x_a) (val x_ad) = x) (hf : x.floor = f) (hr : qv s_r (val x_r) (val x_rd) = x - (f : Rat))
    (hb : (if x = (f : Rat) then false else upd m (decide (x < 0)) (oddz f) (hlf x)) = b) :
    Calls Tryz.prog 46 #[.agg #[.bool s_a, .slice A_a n_a c_a, .slice A_ad n_ad c_ad], .agg #[.bool (zneg f), .slice A_f (dig (zmag f)).length c_f], .agg #[.bool s_r, .slice A_r n_r c_r, .slice A_rd n_rd c_rd], .int .i64 m] w (RetB w (.bool b)) := by
  by_cases h0 : x = (f : Rat)
  · rw [if_pos h0] at hb
    subst hb
    exact up_0 h_a g_a h_ad g_ad h_f g_f h_r g_r h_rd g_rd hB (by rw [hr, h0, Rat.sub_self]; rfl)
  · rw [if_neg h0] at hb
    have hj : sgn (qv s_r (val x_r) (val x_rd)).num ≠ 0 := by
      rw [hr]
      rcases sgq (x - (f : Rat)) with ⟨a, b⟩ | ⟨a, b⟩ | ⟨a, b⟩
      · omega
      · exfalso; grind
      · omega
    have hc : sgn (qv s_r (val x_r) (val x_rd) - mkRat 1 2).num = hlf x := by rw [hr]; unfold hlf; rw [hf]
    have hs : decide (x < 0) = decide (sgn (qv s_a (val x_a) (val x_ad)).num < 0) := by
      rw [hx]
      refine decide_eq_decide.2 ?_
      rcases sgq x with ⟨a, b⟩ | ⟨a, b⟩ | ⟨a, b⟩
      · exact ⟨fun h => by grind, fun h => by omega⟩
      · exact ⟨fun h => by grind, fun h => by omega⟩
      · exact ⟨fun h => by omega, fun h => b⟩
    rw [hs] at hb
    have hm : m = 1 ∨ m = 2 ∨ m = 3 ∨ m = 4 ∨ m = 5 ∨ m = 6 ∨ m = 7 := by omega
    have ho : (lm (dig (zmag f)) 0 % 2 == 1) = oddz f := by rw [← val_mod2, val_dig, odd_dig]
    rcases hm with rfl | rfl | rfl | rfl | rfl | rfl | rfl
    · by_cases h0 : hlf x = 0
      · rw [h0] at hb
        by_cases hn : (dig (zmag f)).length = 0
        · rw [show upd 1 (decide (sgn (qv s_a (val x_a) (val x_ad)).num < 0)) (oddz f) 0 = oddz f from rfl, ← ho, show lm (dig (zmag f)) 0 = 0 by rw [List.length_eq_zero_iff.1 hn]; rfl] at hb
          subst hb; exact up_1e0 h_a g_a h_ad g_ad h_f g_f h_r g_r h_rd g_rd hB rfl hj rfl hc h0 hn
        · exact up_1e1 h_a g_a h_ad g_ad h_f g_f h_r g_r h_rd g_rd hB rfl hj rfl hc h0 (by omega) (ho.trans hb)
      · rw [show upd 1 (decide (sgn (qv s_a (val x_a) (val x_ad)).num < 0)) (oddz f) (hlf x) = decide (0 < hlf x) from by simp [upd, h0]] at hb
        subst hb; exact up_1n h_a g_a h_ad g_ad h_f g_f h_r g_r h_rd g_rd hB rfl hj rfl hc h0
    · by_cases h0 : hlf x = 0
      · rw [h0] at hb; subst hb; exact up_2e h_a g_a h_ad g_ad h_f g_f h_r g_r h_rd g_rd hB rfl hj rfl hc h0
      · rw [show upd 2 (decide (sgn (qv s_a (val x_a) (val x_ad)).num < 0)) (oddz f) (hlf x) = decide (0 < hlf x) from by simp [upd, h0]] at hb
        subst hb; exact up_2n h_a g_a h_ad g_ad h_f g_f h_r g_r h_rd g_rd hB rfl hj rfl hc h0
    · by_cases h0 : hlf x = 0
      · rw [h0] at hb; subst hb; exact up_3e h_a g_a h_ad g_ad h_f g_f h_r g_r h_rd g_rd hB rfl hj rfl hc h0
      · rw [show upd 3 (decide (sgn (qv s_a (val x_a) (val x_ad)).num < 0)) (oddz f) (hlf x) = decide (0 < hlf x) from by simp [upd, h0]] at hb
        subst hb; exact up_3n h_a g_a h_ad g_ad h_f g_f h_r g_r h_rd g_rd hB rfl hj rfl hc h0
    · subst hb; exact up_4 h_a g_a h_ad g_ad h_f g_f h_r g_r h_rd g_rd hB rfl hj rfl
    · subst hb; exact up_5 h_a g_a h_ad g_ad h_f g_f h_r g_r h_rd g_rd hB rfl hj rfl
    · subst hb; exact up_6 h_a g_a h_ad g_ad h_f g_f h_r g_r h_rd g_rd hB rfl hj rfl
    · subst hb; exact up_7 h_a g_a h_ad g_ad h_f g_f h_r g_r h_rd g_rd hB rfl hj rfl
end

section
open Go.RowKit


theorem whole_to {w : World} {Bd : Nat} {A_a : Option Addr} {n_a c_a : Nat} {x_a : List Nat} {s_a : Bool} (h_a : Rd w Bd A_a n_a c_a x_a) (g_a : n_a ≤ 10000000000) (hB : Bd ≤ w.heap.size) {z : Int} (hz : iv s_a (val x_a) = z) {q : Rat} (hq : (z : Rat) = q) :
    Calls Tryz.prog 42 #[.agg #[.bool s_a, .slice A_a n_a c_a]] w (RetRat w q) := by
  subst hq
  exact whole_any h_a g_a hB hz

set_option maxHeartbeats 4000000 in
theorem rround_place {w : World} {Bd : Nat} {A_a : Option Addr} {n_a c_a : Nat} {x_a : List Nat} {s_a : Bool} {A_ad : Option Addr} {n_ad c_ad : Nat} {x_ad : List Nat} {p m : Int} (h_a : Rd w Bd A_a n_a c_a x_a) (_g_a : n_a ≤ 1000000000) (h_ad : Rd w Bd A_ad n_ad c_ad x_ad) (_g_ad : n_ad ≤ 1000000000) (hB : Bd ≤ w.heap.size) (hp : ¬ (0 ≤ p ∧ p ≤ 9)) :
    Calls Tryz.prog 10 #[.agg #[.bool s_a, .slice A_a n_a c_a, .slice A_ad n_ad c_ad], .int .i64 p, .int .i64 m] w (RetDec w 0 0 3) := by
  replace hp := hide hp
  obtain ⟨W, hW⟩ : ∃ W, W = ((w.alloc (.cells #[.bool s_a, .slice A_a n_a c_a, .slice A_ad n_ad c_ad] 27)).alloc (.cells #[.bool false, .slice none 0 0, .int .i64 0] 29)) := ⟨_, rfl⟩
  have b_a : Box3 W (w.heap.size) (.bool s_a) (.slice A_a n_a c_a) (.slice A_ad n_ad c_ad) := by rw [hW]; exact ((Box3.new w _ _ _ rfl).al _)
  have b_r0 : BoxD W (w.heap.size + 1) (.bool false) (.slice none 0 0) (.int .i64 0) := by rw [hW]; exact (BoxD.new _ _ _ _ (by simp))
  have hwW : Below w.heap.size w W := by rw [hW]; exact (((Below.refl _ _).alloc (Nat.le_refl _) _).alloc (by simp) _)
  have R_a := hide (Rd.upto h_a hwW hB)
  clear h_a
  have R_ad := hide (Rd.upto h_ad hwW hB)
  clear h_ad
  have B := hide hwW
  clear hwW
  clear hB
  have U0 : Below W.heap.size W W := Below.refl _ _
  have c_a0 := b_a.at0 b_a.lt_size (Nat.le_refl _)
  have c_a1 := b_a.at1 b_a.lt_size (Nat.le_refl _)
  have c_a2 := b_a.at2 b_a.lt_size (Nat.le_refl _)
  replace b_a := hide b_a
  have c_r00 := b_r0.at0 b_r0.lt_size (Nat.le_refl _)
  have c_r01 := b_r0.at1 b_r0.lt_size (Nat.le_refl _)
  have c_r02 := b_r0.at2 b_r0.lt_size (Nat.le_refl _)
  have f_r00 := b_r0.free0 b_r0.lt_size (Nat.le_refl _)
  have f_r01 := b_r0.free1 b_r0.lt_size (Nat.le_refl _)
  have f_r02 := b_r0.free2 b_r0.lt_size (Nat.le_refl _)
  have l_r0 := b_r0.lt b_r0.lt_size (Nat.le_refl _)
  replace b_r0 := hide b_r0
  go_enter Tryz.func10, Tryz.ntmps10
  go_wp2_with fail
  rw [← hW]
  clear hW
  refine (rplaces_no hp.out).mono ?_
  rintro e w1 ⟨rfl, hb⟩
  replace R_a := hide (Rd.then_ R_a.out hb)
  replace R_ad := hide (Rd.then_ R_ad.out hb)
  have U1 : Below W.heap.size W w1 := Below.then_ U0 hb
  replace B := hide (Below.then_ B.out hb)
  clear hb
  go_wp2
  exact bodyPost_ret (v := .tuple #[.agg #[.bool false, .slice none 0 0, .int .i64 0], .int .i64 3]) (by simp [results, Tryz.results10, go_sem, c_r00 _ U1, c_r01 _ U1, c_r02 _ U1]) rfl (RetDec.zero B.out (by omega) (c_r00 _ U1) (c_r01 _ U1) (c_r02 _ U1))

set_option maxHeartbeats 4000000 in
theorem rround_mode {w : World} {Bd : Nat} {A_a : Option Addr} {n_a c_a : Nat} {x_a : List Nat} {s_a : Bool} {A_ad : Option Addr} {n_ad c_ad : Nat} {x_ad : List Nat} {p m : Int} (h_a : Rd w Bd A_a n_a c_a x_a) (_g_a : n_a ≤ 1000000000) (h_ad : Rd w Bd A_ad n_ad c_ad x_ad) (_g_ad : n_ad ≤ 1000000000) (hB : Bd ≤ w.heap.size) (h0 : 0 ≤ p) (h9 : p ≤ 9) (hm : ¬ (1 ≤ m ∧ m ≤ 7)) :
    Calls Tryz.prog 10 #[.agg #[.bool s_a, .slice A_a n_a c_a, .slice A_ad n_ad c_ad], .int .i64 p, .int .i64 m] w (RetDec w 0 0 1) := by
  replace h0 := hide h0
  replace h9 := hide h9
  replace hm := hide hm
  obtain ⟨W, hW⟩ : ∃ W, W = ((w.alloc (.cells #[.bool s_a, .slice A_a n_a c_a, .slice A_ad n_ad c_ad] 27)).alloc (.cells #[.bool false, .slice none 0 0, .int .i64 0] 29)) := ⟨_, rfl⟩
  have b_a : Box3 W (w.heap.size) (.bool s_a) (.slice A_a n_a c_a) (.slice A_ad n_ad c_ad) := by rw [hW]; exact ((Box3.new w _ _ _ rfl).al _)
  have b_r0 : BoxD W (w.heap.size + 1) (.bool false) (.slice none 0 0) (.int .i64 0) := by rw [hW]; exact (BoxD.new _ _ _ _ (by simp))
  have hwW : Below w.heap.size w W := by rw [hW]; exact (((Below.refl _ _).alloc (Nat.le_refl _) _).alloc (by simp) _)
  have R_a := hide (Rd.upto h_a hwW hB)
  clear h_a
  have R_ad := hide (Rd.upto h_ad hwW hB)
  clear h_ad
  have B := hide hwW
  clear hwW
  clear hB
  have U0 : Below W.heap.size W W := Below.refl _ _
  have c_a0 := b_a.at0 b_a.lt_size (Nat.le_refl _)
  have c_a1 := b_a.at1 b_a.lt_size (Nat.le_refl _)
  have c_a2 := b_a.at2 b_a.lt_size (Nat.le_refl _)
  replace b_a := hide b_a
  have c_r00 := b_r0.at0 b_r0.lt_size (Nat.le_refl _)
  have c_r01 := b_r0.at1 b_r0.lt_size (Nat.le_refl _)
  have c_r02 := b_r0.at2 b_r0.lt_size (Nat.le_refl _)
  have f_r00 := b_r0.free0 b_r0.lt_size (Nat.le_refl _)
  have f_r01 := b_r0.free1 b_r0.lt_size (Nat.le_refl _)
  have f_r02 := b_r0.free2 b_r0.lt_size (Nat.le_refl _)
  have l_r0 := b_r0.lt b_r0.lt_size (Nat.le_refl _)
  replace b_r0 := hide b_r0
  go_enter Tryz.func10, Tryz.ntmps10
  go_wp2_with fail
  rw [← hW]
  clear hW
  refine (rplaces_yes h0.out h9.out).mono ?_
  rintro e w1 ⟨rfl, hb⟩
  replace R_a := hide (Rd.then_ R_a.out hb)
  replace R_ad := hide (Rd.then_ R_ad.out hb)
  have U1 : Below W.heap.size W w1 := Below.then_ U0 hb
  replace B := hide (Below.then_ B.out hb)
  clear hb
  go_wp2_with fail
  refine (rmode_no hm.out).mono ?_
  rintro e w2 ⟨rfl, hb⟩
  replace R_a := hide (Rd.then_ R_a.out hb)
  replace R_ad := hide (Rd.then_ R_ad.out hb)
  have U2 : Below W.heap.size W w2 := Below.then_ U1 hb
  replace B := hide (Below.then_ B.out hb)
  clear hb
  go_wp2
  exact bodyPost_ret (v := .tuple #[.agg #[.bool false, .slice none 0 0, .int .i64 0], .int .i64 1]) (by simp [results, Tryz.results10, go_sem, c_r00 _ U2, c_r01 _ U2, c_r02 _ U2]) rfl (RetDec.zero B.out (by omega) (c_r00 _ U2) (c_r01 _ U2) (c_r02 _ U2))

set_option maxHeartbeats 4000000 in
theorem rround_low {w : World} {Bd : Nat} {A_a : Option Addr} {n_a c_a : Nat} {x_a : List Nat} {s_a : Bool} {A_ad : Option Addr} {n_ad c_ad : Nat} {x_ad : List Nat} {p : Nat} {m : Int} (h_a : Rd w Bd A_a n_a c_a x_a) (g_a : n_a ≤ 100000000) (h_ad : Rd w Bd A_ad n_ad c_ad x_ad) (g_ad : n_ad ≤ 100000000) (hB : Bd ≤ w.heap.size) (h9 : p ≤ 9) (h1 : 1 ≤ m) (h7 : m ≤ 7) {x : Rat} {f z : Int} (hx : qv s_a (val x_a) (val x_ad) * ((10 ^ p : Nat) : Rat) = x) (hf : x.floor = f) (hb : (if x = (f : Rat) then false else upd m (decide (x < 0)) (oddz f) (hlf x)) = false) (hz : f = z) :
    Calls Tryz.prog 10 #[.agg #[.bool s_a, .slice A_a n_a c_a, .slice A_ad n_ad c_ad], .int .i64 (p : Int), .int .i64 m] w (RetDec w z (p : Int) 0) := by
  obtain ⟨T, e_T⟩ : ∃ new, 10 ^ p = new := ⟨_, rfl⟩
  replace e_T := hide e_T
  have lT : T < pw 1 := by rw [← e_T.out]; exact Nat.lt_of_le_of_lt (Nat.pow_le_pow_right (by omega) h9) (by decide)
  rw [e_T.out] at hx
  obtain ⟨t0, e_t0⟩ : ∃ new, ((T : Int) : Rat) = new := ⟨_, rfl⟩
  replace e_t0 := hide e_t0
  have s_t : (dig (zmag t0.num)).length ≤ 1 ∧ (dig t0.den).length ≤ 1 := by rw [← e_t0.out]; exact sz_int lT (by omega)
  replace s_t := hide s_t
  have s_q := sz_rd (q := qv s_a (val x_a) (val x_ad)) h_a h_ad rfl g_a g_ad
  have e_x' : qv s_a (val x_a) (val x_ad) * t0 = x := by rw [← e_t0.out]; exact hx
  have s_x := sz_mul e_x' s_q s_t.out
  have e_x : qv s_a (val x_a) (val x_ad) * qv (zneg t0.num) (val (dig (zmag t0.num))) (val (dig t0.den)) = x := by rw [qv_eta]; exact e_x'
  replace e_x := hide e_x
  have l_f := flr_lt s_x
  rw [hf] at l_f
  have bb_f : (dig (zmag f)).length ≤ 1000000000 := by have := zl l_f; omega
  replace bb_f := hide bb_f
  have bb_x : (dig (zmag x.num)).length ≤ 1000000000 ∧ (dig x.den).length ≤ 1000000000 := by omega
  replace bb_x := hide bb_x
  obtain ⟨y, e_y⟩ : ∃ new, (f : Rat) = new := ⟨_, rfl⟩
  replace e_y := hide e_y
  have s_y : (dig (zmag y.num)).length ≤ 100000002 ∧ (dig y.den).length ≤ 100000002 := by rw [← e_y.out]; exact sz_int l_f (by omega)
  have bb_y : (dig (zmag y.num)).length ≤ 1000000000 ∧ (dig y.den).length ≤ 1000000000 := by omega
  replace bb_y := hide bb_y
  obtain ⟨t, e_t⟩ : ∃ new, x - y = new := ⟨_, rfl⟩
  replace e_t := hide e_t
  have s_t2 := sz_sub e_t.out s_x s_y
  have bb_t : (dig (zmag t.num)).length ≤ 1000000000 ∧ (dig t.den).length ≤ 1000000000 := by omega
  replace bb_t := hide bb_t
  have e_tc : qv (zneg x.num) (val (dig (zmag x.num))) (val (dig x.den)) - qv (zneg y.num) (val (dig (zmag y.num))) (val (dig y.den)) = t := by rw [qv_eta, qv_eta]; exact e_t.out
  replace e_tc := hide e_tc
  have e_tr : qv (zneg t.num) (val (dig (zmag t.num))) (val (dig t.den)) = x - (f : Rat) := by rw [qv_eta, e_y.out]; exact e_t.out.symm
  replace e_tr := hide e_tr
  have e_ff : (qv (zneg x.num) (val (dig (zmag x.num))) (val (dig x.den))).floor = f := by rw [qv_eta]; exact hf
  replace e_ff := hide e_ff
  have e_fz : iv (zneg f) (val (dig (zmag f))) = f := ivz f
  replace e_fz := hide e_fz
  have e_xx : qv (zneg x.num) (val (dig (zmag x.num))) (val (dig x.den)) = x := qv_eta x
  replace e_xx := hide e_xx
  subst hz
  have f0 : (0 : Int) ≤ (p : Int) := by omega
  replace f0 := hide f0
  have f9 : (p : Int) ≤ 9 := by omega
  replace f9 := hide f9
  have ga : n_a ≤ 1000000000 ∧ n_ad ≤ 1000000000 := by omega
  replace ga := hide ga
  have e_T2 : iv false (val (dig T)) = (T : Int) := by rw [val_dig, iv_false]
  replace e_T2 := hide e_T2
  have gT : (dig T).length ≤ 10000000000 := by have := dl lT; omega
  replace gT := hide gT
  clear hx s_q e_x' s_x l_f s_y s_t2
  replace h1 := hide h1
  replace h7 := hide h7
  replace h9 := hide h9
  replace lT := hide lT
  replace hb := hide hb
  replace hf := hide hf
  obtain ⟨W, hW⟩ : ∃ W, W = ((w.alloc (.cells #[.bool s_a, .slice A_a n_a c_a, .slice A_ad n_ad c_ad] 27)).alloc (.cells #[.bool false, .slice none 0 0, .int .i64 0] 29)) := ⟨_, rfl⟩
  have b_a : Box3 W (w.heap.size) (.bool s_a) (.slice A_a n_a c_a) (.slice A_ad n_ad c_ad) := by rw [hW]; exact ((Box3.new w _ _ _ rfl).al _)
  have b_r0 : BoxD W (w.heap.size + 1) (.bool false) (.slice none 0 0) (.int .i64 0) := by rw [hW]; exact (BoxD.new _ _ _ _ (by simp))
  have hwW : Below w.heap.size w W := by rw [hW]; exact (((Below.refl _ _).alloc (Nat.le_refl _) _).alloc (by simp) _)
  have R_a := hide (Rd.upto h_a hwW hB)
  clear h_a
  have R_ad := hide (Rd.upto h_ad hwW hB)
  clear h_ad
  have B := hide hwW
  clear hwW
  clear hB
  have U0 : Below W.heap.size W W := Below.refl _ _
  have c_a0 := b_a.at0 b_a.lt_size (Nat.le_refl _)
  have c_a1 := b_a.at1 b_a.lt_size (Nat.le_refl _)
  have c_a2 := b_a.at2 b_a.lt_size (Nat.le_refl _)
  replace b_a := hide b_a
  have c_r00 := b_r0.at0 b_r0.lt_size (Nat.le_refl _)
  have c_r01 := b_r0.at1 b_r0.lt_size (Nat.le_refl _)
  have c_r02 := b_r0.at2 b_r0.lt_size (Nat.le_refl _)
  have f_r00 := b_r0.free0 b_r0.lt_size (Nat.le_refl _)
  have f_r01 := b_r0.free1 b_r0.lt_size (Nat.le_refl _)
  have f_r02 := b_r0.free2 b_r0.lt_size (Nat.le_refl _)
  have l_r0 := b_r0.lt b_r0.lt_size (Nat.le_refl _)
  replace b_r0 := hide b_r0
  go_enter Tryz.func10, Tryz.ntmps10
  go_wp2_with fail
  rw [← hW]
  clear hW
  refine (rplaces_yes f0.out f9.out).mono ?_
  rintro e w1 ⟨rfl, hb⟩
  replace R_a := hide (Rd.then_ R_a.out hb)
  replace R_ad := hide (Rd.then_ R_ad.out hb)
  have U1 : Below W.heap.size W w1 := Below.then_ U0 hb
  replace B := hide (Below.then_ B.out hb)
  clear hb
  go_wp2_with fail
  refine (rmode_yes h1.out h7.out).mono ?_
  rintro e w2 ⟨rfl, hb⟩
  replace R_a := hide (Rd.then_ R_a.out hb)
  replace R_ad := hide (Rd.then_ R_ad.out hb)
  have U2 : Below W.heap.size W w2 := Below.then_ U1 hb
  replace B := hide (Below.then_ B.out hb)
  clear hb
  go_wp2_with fail
  replace b_a := hide (Box3.keep b_a.out U2)
  clear c_a0 c_a1 c_a2
  replace b_r0 := hide (BoxD.keep b_r0.out U2)
  clear c_r00 c_r01 c_r02 f_r00 f_r01 f_r02 l_r0
  have U3 : Below w2.heap.size w2 w2 := Below.refl _ _
  have c_a0 := b_a.out.at0 b_a.out.lt_size (Nat.le_refl _)
  have c_a1 := b_a.out.at1 b_a.out.lt_size (Nat.le_refl _)
  have c_a2 := b_a.out.at2 b_a.out.lt_size (Nat.le_refl _)
  have c_r00 := b_r0.out.at0 b_r0.out.lt_size (Nat.le_refl _)
  have c_r01 := b_r0.out.at1 b_r0.out.lt_size (Nat.le_refl _)
  have c_r02 := b_r0.out.at2 b_r0.out.lt_size (Nat.le_refl _)
  have f_r00 := b_r0.out.free0 b_r0.out.lt_size (Nat.le_refl _)
  have f_r01 := b_r0.out.free1 b_r0.out.lt_size (Nat.le_refl _)
  have f_r02 := b_r0.out.free2 b_r0.out.lt_size (Nat.le_refl _)
  have l_r0 := b_r0.out.lt b_r0.out.lt_size (Nat.le_refl _)
  refine Code.wp_mono (Q := fun e a' w' => e = .normal ∧ ∃ (g : Nat) (A : Option Addr) (c : Nat) (B : Option Addr) (d : Nat) (v18 v19 v20 v21 v22 v23 : Value), a' = ⟨#[.agg #[.bool s_a, .slice A_a n_a c_a, .slice A_ad n_ad c_ad], .int .i64 (p : Int), .int .i64 m, (.pointer (some ⟨w.heap.size, 0, none⟩)), undef, undef, (.pointer (some ⟨w.heap.size + 1, 0, none⟩)), .int .i64 0, (.pointer (some ⟨g, 0, none⟩)), undef, .int .i64 (p : Int), .bool true, .bool false, undef, .int .i64 m, .bool true, .bool false, undef, v18, v19, v20, v21, v22, v23, undef, undef, undef, undef, undef, undef, undef, undef, undef, undef, undef, undef, undef, undef, undef, undef, undef, undef], []⟩ ∧ LandedR w2 w' g x A c B d) ?_ ?_
  rotate_left
  · skip
    have hd := Below.drw_ w2
    replace R_a := hide (Rd.then_ R_a.out hd)
    replace R_ad := hide (Rd.then_ R_ad.out hd)
    have U4 : Below w2.heap.size w2 (w2.drew) := Below.then_ U3 hd
    replace B := hide (Below.then_ B.out hd)
    clear hd
    have tok1 : True := trivial
    go_region_held3 (fun w' => Below w2.heap.size w2 w') (first | assumption | (with_reducible exact Below.al_ (by assumption) _) | (with_reducible exact Below.al_drew (by assumption) _) | (with_reducible exact (landedR_new U7 R_x.out R_xd.out).below) | (with_reducible exact (landedR_set U7 R_x.out R_xd.out X7.out).below) | (with_reducible exact (landedR_late U7 R_x.out R_xd.out).below) | fail)
      (first
        | (go_at_call 43; (have _t := tok1; (with_reducible refine (power_any h9.out e_T.out).mono ?_); rintro e w3 ⟨A_T, c_T, rfl, R_T, hb⟩; have hb1 : Below (w2.drew).heap.size (w2.drew) w3 := (by first | exact hb | exact Below.al_then hb | exact Below.al_then_drew hb); (first | (have X5 := hide (XBox3.made_drew U4 hb)) | (have X5 := hide (XBox3.made U4 hb)) | (have X5 := hide (XBox3.keep X0.out hb1)) | skip); replace R_a := hide (Rd.then_ R_a.out hb1); replace R_ad := hide (Rd.then_ R_ad.out hb1); have U5 : Below w2.heap.size w2 w3 := Below.then_ U4 hb1; replace B := hide (Below.then_ B.out hb1); clear hb1; replace R_T := hide R_T; clear hb; have tok2 : True := trivial; clear _t tok1))
        | (go_at_call 42; (have _t := tok2; (with_reducible refine (whole_to (by first | exact R_T.out | exact Rd.al_ R_T.out | exact Rd.al_drew R_T.out) gT.out (Nat.le_refl _) e_T2.out e_t0.out).mono ?_); rintro e w4 ⟨A_t0, c_t0, A_t0d, c_t0d, rfl, R_t0, R_t0d, hb⟩; have hb1 : Below w3.heap.size w3 w4 := (by first | exact hb | exact Below.al_then hb | exact Below.al_then_drew hb); (first | (have X6 := hide (XBox3.made_drew U5 hb)) | (have X6 := hide (XBox3.made U5 hb)) | (have X6 := hide (XBox3.keep X5.out hb1)) | skip); replace R_a := hide (Rd.then_ R_a.out hb1); replace R_ad := hide (Rd.then_ R_ad.out hb1); replace R_T := hide (Rd.then_ R_T.out hb1); have U6 : Below w2.heap.size w2 w4 := Below.then_ U5 hb1; replace B := hide (Below.then_ B.out hb1); clear hb1; replace R_t0 := hide R_t0; replace R_t0d := hide R_t0d; clear hb; have tok3 : True := trivial; clear _t tok2))
        | (go_at_call 41; (have _t := tok3; (with_reducible refine (rmul3w_any (by first | exact R_a.out | exact Rd.al_ R_a.out | exact Rd.al_drew R_a.out) ga.out.1 (by first | exact R_ad.out | exact Rd.al_ R_ad.out | exact Rd.al_drew R_ad.out) ga.out.2 (by first | exact R_t0.out | exact Rd.al_ R_t0.out | exact Rd.al_drew R_t0.out) (Nat.le_trans s_t.out.1 (by omega)) (by first | exact R_t0d.out | exact Rd.al_ R_t0d.out | exact Rd.al_drew R_t0d.out) (Nat.le_trans s_t.out.2 (by omega)) (Nat.le_refl _) e_x.out).mono ?_); rintro e w5 ⟨A_x, c_x, A_xd, c_xd, rfl, R_x, R_xd, hb⟩; have hb1 : Below w4.heap.size w4 w5 := (by first | exact hb | exact Below.al_then hb | exact Below.al_then_drew hb); (first | (have X7 := hide (XBox3.made_drew U6 hb)) | (have X7 := hide (XBox3.made U6 hb)) | (have X7 := hide (XBox3.keep X6.out hb1)) | skip); replace R_a := hide (Rd.then_ R_a.out hb1); replace R_ad := hide (Rd.then_ R_ad.out hb1); replace R_T := hide (Rd.then_ R_T.out hb1); replace R_t0 := hide (Rd.then_ R_t0.out hb1); replace R_t0d := hide (Rd.then_ R_t0d.out hb1); have U7 : Below w2.heap.size w2 w5 := Below.then_ U6 hb1; replace B := hide (Below.then_ B.out hb1); clear hb1; replace R_x := hide R_x; replace R_xd := hide R_xd; clear hb; have tok4 : True := trivial; clear _t tok3; (first | (have xf := XBox3.facts X7.out; obtain ⟨x0, x1, x2, x3, x4⟩ := xf) | skip))))
    all_goals (refine ⟨rfl, _, A_x, c_x, A_xd, c_xd, _, _, _, _, _, _, rfl, ?_⟩; first | exact landedR_new U7 R_x.out R_xd.out | exact landedR_set U7 R_x.out R_xd.out X7.out | exact landedR_late U7 R_x.out R_xd.out)
  rintro e a' w6 ⟨rfl, g_x, A_x, c_x, A_xd, c_xd, v18, v19, v20, v21, v22, v23, rfl, hbx, b_x, R_x, R_xd, hg_x⟩
  replace R_x := hide R_x
  replace R_xd := hide R_xd
  have ne_x_r0 : g_x ≠ w.heap.size + 1 := by have := l_r0 _ U3; omega
  replace ne_x_r0 := hide ne_x_r0
  have ne_a_x : w.heap.size ≠ g_x := by have := (b_a.out.lt b_a.out.lt_size (Nat.le_refl _)) _ U3; omega
  replace ne_a_x := hide ne_a_x
  have ne_r0_x := hide (Ne.symm ne_x_r0.out)
  have ge_x : w.heap.size ≤ g_x := by have := B.out.size; omega
  replace ge_x := hide ge_x
  clear hg_x
  replace R_a := hide (Rd.then_ R_a.out hbx)
  replace R_ad := hide (Rd.then_ R_ad.out hbx)
  have U4 : Below w2.heap.size w2 w6 := Below.then_ U3 hbx
  replace B := hide (Below.then_ B.out hbx)
  clear hbx
  replace b_a := hide (Box3.keep b_a.out U4)
  clear c_a0 c_a1 c_a2
  replace b_r0 := hide (BoxD.keep b_r0.out U4)
  clear c_r00 c_r01 c_r02 f_r00 f_r01 f_r02 l_r0
  replace b_x := hide b_x
  have U5 : Below w6.heap.size w6 w6 := Below.refl _ _
  have c_a0 := b_a.out.at0 b_a.out.lt_size (Nat.le_refl _)
  have c_a1 := b_a.out.at1 b_a.out.lt_size (Nat.le_refl _)
  have c_a2 := b_a.out.at2 b_a.out.lt_size (Nat.le_refl _)
  have c_r00 := b_r0.out.at0 b_r0.out.lt_size (Nat.le_refl _)
  have c_r01 := b_r0.out.at1 b_r0.out.lt_size (Nat.le_refl _)
  have c_r02 := b_r0.out.at2 b_r0.out.lt_size (Nat.le_refl _)
  have f_r00 := b_r0.out.free0 b_r0.out.lt_size (Nat.le_refl _)
  have f_r01 := b_r0.out.free1 b_r0.out.lt_size (Nat.le_refl _)
  have f_r02 := b_r0.out.free2 b_r0.out.lt_size (Nat.le_refl _)
  have l_r0 := b_r0.out.lt b_r0.out.lt_size (Nat.le_refl _)
  have c_x0 := b_x.out.at0 b_x.out.lt_size (Nat.le_refl _)
  have c_x1 := b_x.out.at1 b_x.out.lt_size (Nat.le_refl _)
  have c_x2 := b_x.out.at2 b_x.out.lt_size (Nat.le_refl _)
  go_wp2_with fail
  refine (rfloor3_any R_x.out bb_x.out.1 R_xd.out bb_x.out.2 (Nat.le_refl _) e_ff.out).mono ?_
  rintro e w7 ⟨A_f0, c_f0, rfl, R_f0, hb⟩
  replace R_a := hide (Rd.then_ R_a.out hb)
  replace R_ad := hide (Rd.then_ R_ad.out hb)
  replace R_x := hide (Rd.then_ R_x.out hb)
  replace R_xd := hide (Rd.then_ R_xd.out hb)
  have U6 : Below w6.heap.size w6 w7 := Below.then_ U5 hb
  replace B := hide (Below.then_ B.out hb)
  replace R_f0 := hide R_f0
  clear hb
  go_wp2_with fail
  refine (rinorm_any _ _ _ _ _ _ _ R_f0.out (Nat.le_refl _)).mono ?_
  rw [e_fz.out]
  rintro e w8 ⟨A_f, c_f, rfl, R_f, hb⟩
  replace R_a := hide (Rd.then_ R_a.out hb)
  replace R_ad := hide (Rd.then_ R_ad.out hb)
  replace R_x := hide (Rd.then_ R_x.out hb)
  replace R_xd := hide (Rd.then_ R_xd.out hb)
  replace R_f0 := hide (Rd.then_ R_f0.out hb)
  have U7 : Below w6.heap.size w6 w8 := Below.then_ U6 hb
  replace B := hide (Below.then_ B.out hb)
  replace R_f := hide R_f
  clear hb
  have hbx : Below w8.heap.size w8 (w8.alloc (.cells #[.bool (zneg f), .slice A_f (dig (zmag f)).length c_f] 25)) := ((Below.refl _ _).alloc (Nat.le_refl _) _)
  have Ux := Below.then_ U7 hbx
  go_wp2_with fail
  obtain ⟨V7, hV⟩ : ∃ V, V = (w8.alloc (.cells #[.bool (zneg f), .slice A_f (dig (zmag f)).length c_f] 25)) := ⟨_, rfl⟩
  obtain ⟨g_f, hg_f⟩ : ∃ g, g = w8.heap.size := ⟨_, rfl⟩
  rw [← hV]
  rw [← hV] at hbx Ux
  rw [← hg_f]
  have b_f : Box V7 g_f (.bool (zneg f)) (.slice A_f (dig (zmag f)).length c_f) := by rw [hV]; exact (Box.new _ _ _ hg_f)
  clear hV
  have ne_f_r0 : g_f ≠ w.heap.size + 1 := by have := l_r0 _ U7; omega
  replace ne_f_r0 := hide ne_f_r0
  have ne_a_f : w.heap.size ≠ g_f := by have := (b_a.out.lt b_a.out.lt_size (Nat.le_refl _)) _ U7; omega
  replace ne_a_f := hide ne_a_f
  have ne_r0_f := hide (Ne.symm ne_f_r0.out)
  have ne_x_f : g_x ≠ g_f := by have := (b_x.out.lt b_x.out.lt_size (Nat.le_refl _)) _ U7; omega
  replace ne_x_f := hide ne_x_f
  have ge_f : w.heap.size ≤ g_f := by have := B.out.size; omega
  replace ge_f := hide ge_f
  clear hg_f
  replace R_a := hide (Rd.then_ R_a.out hbx)
  replace R_ad := hide (Rd.then_ R_ad.out hbx)
  replace R_x := hide (Rd.then_ R_x.out hbx)
  replace R_xd := hide (Rd.then_ R_xd.out hbx)
  replace R_f0 := hide (Rd.then_ R_f0.out hbx)
  replace R_f := hide (Rd.then_ R_f.out hbx)
  have U8 : Below w6.heap.size w6 V7 := Below.then_ U7 hbx
  replace B := hide (Below.then_ B.out hbx)
  clear hbx
  replace b_a := hide (Box3.keep b_a.out U8)
  clear c_a0 c_a1 c_a2
  replace b_r0 := hide (BoxD.keep b_r0.out U8)
  clear c_r00 c_r01 c_r02 f_r00 f_r01 f_r02 l_r0
  replace b_x := hide (Box3.keep b_x.out U8)
  clear c_x0 c_x1 c_x2
  replace b_f := hide b_f
  have U9 : Below V7.heap.size V7 V7 := Below.refl _ _
  have c_a0 := b_a.out.at0 b_a.out.lt_size (Nat.le_refl _)
  have c_a1 := b_a.out.at1 b_a.out.lt_size (Nat.le_refl _)
  have c_a2 := b_a.out.at2 b_a.out.lt_size (Nat.le_refl _)
  have c_r00 := b_r0.out.at0 b_r0.out.lt_size (Nat.le_refl _)
  have c_r01 := b_r0.out.at1 b_r0.out.lt_size (Nat.le_refl _)
  have c_r02 := b_r0.out.at2 b_r0.out.lt_size (Nat.le_refl _)
  have f_r00 := b_r0.out.free0 b_r0.out.lt_size (Nat.le_refl _)
  have f_r01 := b_r0.out.free1 b_r0.out.lt_size (Nat.le_refl _)
  have f_r02 := b_r0.out.free2 b_r0.out.lt_size (Nat.le_refl _)
  have l_r0 := b_r0.out.lt b_r0.out.lt_size (Nat.le_refl _)
  have c_x0 := b_x.out.at0 b_x.out.lt_size (Nat.le_refl _)
  have c_x1 := b_x.out.at1 b_x.out.lt_size (Nat.le_refl _)
  have c_x2 := b_x.out.at2 b_x.out.lt_size (Nat.le_refl _)
  have c_f0 := b_f.out.at0 b_f.out.lt_size (Nat.le_refl _)
  have c_f1 := b_f.out.at1 b_f.out.lt_size (Nat.le_refl _)
  have f_f0 := b_f.out.free0 b_f.out.lt_size (Nat.le_refl _)
  have f_f1 := b_f.out.free1 b_f.out.lt_size (Nat.le_refl _)
  have l_f := b_f.out.lt b_f.out.lt_size (Nat.le_refl _)
  have hd := Below.drw_ V7
  replace R_a := hide (Rd.then_ R_a.out hd)
  replace R_ad := hide (Rd.then_ R_ad.out hd)
  replace R_x := hide (Rd.then_ R_x.out hd)
  replace R_xd := hide (Rd.then_ R_xd.out hd)
  replace R_f0 := hide (Rd.then_ R_f0.out hd)
  replace R_f := hide (Rd.then_ R_f.out hd)
  have U10 : Below V7.heap.size V7 (V7.drew) := Below.then_ U9 hd
  replace B := hide (Below.then_ B.out hd)
  clear hd
  have tok1 : True := trivial
  go_region_held3 (fun w' => Below V7.heap.size V7 w') (assumption)
    (first
      | (go_at_call 42; (have _t := tok1; (with_reducible refine (whole_to R_f.out (by have := bb_f.out; omega) (Nat.le_refl _) e_fz.out e_y.out).mono ?_); rintro e w9 ⟨A_y, c_y, A_yd, c_yd, rfl, R_y, R_yd, hb⟩; replace R_a := hide (Rd.then_ R_a.out hb); replace R_ad := hide (Rd.then_ R_ad.out hb); replace R_x := hide (Rd.then_ R_x.out hb); replace R_xd := hide (Rd.then_ R_xd.out hb); replace R_f0 := hide (Rd.then_ R_f0.out hb); replace R_f := hide (Rd.then_ R_f.out hb); have U11 : Below V7.heap.size V7 w9 := Below.then_ U10 hb; replace B := hide (Below.then_ B.out hb); replace R_y := hide R_y; replace R_yd := hide R_yd; clear hb; have tok2 : True := trivial; clear _t tok1))
      | (go_at_call 47; (have _t := tok2; (with_reducible refine (rsub3_any R_x.out bb_x.out.1 R_xd.out bb_x.out.2 R_y.out bb_y.out.1 R_yd.out bb_y.out.2 (Nat.le_refl _) e_tc.out).mono ?_); rintro e w10 ⟨A_t, c_t, A_td, c_td, rfl, R_t, R_td, hb⟩; replace R_a := hide (Rd.then_ R_a.out hb); replace R_ad := hide (Rd.then_ R_ad.out hb); replace R_x := hide (Rd.then_ R_x.out hb); replace R_xd := hide (Rd.then_ R_xd.out hb); replace R_f0 := hide (Rd.then_ R_f0.out hb); replace R_f := hide (Rd.then_ R_f.out hb); replace R_y := hide (Rd.then_ R_y.out hb); replace R_yd := hide (Rd.then_ R_yd.out hb); have U12 : Below V7.heap.size V7 w10 := Below.then_ U11 hb; replace B := hide (Below.then_ B.out hb); replace R_t := hide R_t; replace R_td := hide R_td; clear hb; have tok3 : True := trivial; clear _t tok2))
      | (go_at_call 46; (have _t := tok3; (with_reducible refine (up_any R_x.out bb_x.out.1 R_xd.out bb_x.out.2 R_f.out bb_f.out R_t.out bb_t.out.1 R_td.out bb_t.out.2 (Nat.le_refl _) h1.out h7.out e_xx.out hf.out e_tr.out hb.out).mono ?_); rintro e w11 ⟨rfl, hb⟩; replace R_a := hide (Rd.then_ R_a.out hb); replace R_ad := hide (Rd.then_ R_ad.out hb); replace R_x := hide (Rd.then_ R_x.out hb); replace R_xd := hide (Rd.then_ R_xd.out hb); replace R_f0 := hide (Rd.then_ R_f0.out hb); replace R_f := hide (Rd.then_ R_f.out hb); replace R_y := hide (Rd.then_ R_y.out hb); replace R_yd := hide (Rd.then_ R_yd.out hb); replace R_t := hide (Rd.then_ R_t.out hb); replace R_td := hide (Rd.then_ R_td.out hb); have U13 : Below V7.heap.size V7 w11 := Below.then_ U12 hb; replace B := hide (Below.then_ B.out hb); clear hb; have tok4 : True := trivial; clear _t tok3)))
  clear tok4
  go_wp2
  exact bodyPost_ret (v := .tuple #[.agg #[.bool (zneg f), .slice A_f (dig (zmag f)).length c_f, .int .i64 (p : Int)], .int .i64 0]) (by simp [results, Tryz.results10, go_sem, c_r00 _ U13, c_r01 _ U13, c_r02 _ U13]) rfl (RetDec.box B.out (by omega) (c_r00 _ U13) (c_r01 _ U13) (c_r02 _ U13) R_f.out)

set_option maxHeartbeats 4000000 in
theorem rround_high {w : World} {Bd : Nat} {A_a : Option Addr} {n_a c_a : Nat} {x_a : List Nat} {s_a : Bool} {A_ad : Option Addr} {n_ad c_ad : Nat} {x_ad : List Nat} {p : Nat} {m : Int} (h_a : Rd w Bd A_a n_a c_a x_a) (g_a : n_a ≤ 100000000) (h_ad : Rd w Bd A_ad n_ad c_ad x_ad) (g_ad : n_ad ≤ 100000000) (hB : Bd ≤ w.heap.size) (h9 : p ≤ 9) (h1 : 1 ≤ m) (h7 : m ≤ 7) {x : Rat} {f z : Int} (hx : qv s_a (val x_a) (val x_ad) * ((10 ^ p : Nat) : Rat) = x) (hf : x.floor = f) (hb : (if x = (f : Rat) then false else upd m (decide (x < 0)) (oddz f) (hlf x)) = true) (hz : f + 1 = z) :
    Calls Tryz.prog 10 #[.agg #[.bool s_a, .slice A_a n_a c_a, .slice A_ad n_ad c_ad], .int .i64 (p : Int), .int .i64 m] w (RetDec w z (p : Int) 0) := by
  obtain ⟨T, e_T⟩ : ∃ new, 10 ^ p = new := ⟨_, rfl⟩
  replace e_T := hide e_T
  have lT : T < pw 1 := by rw [← e_T.out]; exact Nat.lt_of_le_of_lt (Nat.pow_le_pow_right (by omega) h9) (by decide)
  rw [e_T.out] at hx
  obtain ⟨t0, e_t0⟩ : ∃ new, ((T : Int) : Rat) = new := ⟨_, rfl⟩
  replace e_t0 := hide e_t0
  have s_t : (dig (zmag t0.num)).length ≤ 1 ∧ (dig t0.den).length ≤ 1 := by rw [← e_t0.out]; exact sz_int lT (by omega)
  replace s_t := hide s_t
  have s_q := sz_rd (q := qv s_a (val x_a) (val x_ad)) h_a h_ad rfl g_a g_ad
  have e_x' : qv s_a (val x_a) (val x_ad) * t0 = x := by rw [← e_t0.out]; exact hx
  have s_x := sz_mul e_x' s_q s_t.out
  have e_x : qv s_a (val x_a) (val x_ad) * qv (zneg t0.num) (val (dig (zmag t0.num))) (val (dig t0.den)) = x := by rw [qv_eta]; exact e_x'
  replace e_x := hide e_x
  have l_f := flr_lt s_x
  rw [hf] at l_f
  have bb_f : (dig (zmag f)).length ≤ 1000000000 := by have := zl l_f; omega
  replace bb_f := hide bb_f
  have bb_x : (dig (zmag x.num)).length ≤ 1000000000 ∧ (dig x.den).length ≤ 1000000000 := by omega
  replace bb_x := hide bb_x
  obtain ⟨y, e_y⟩ : ∃ new, (f : Rat) = new := ⟨_, rfl⟩
  replace e_y := hide e_y
  have s_y : (dig (zmag y.num)).length ≤ 100000002 ∧ (dig y.den).length ≤ 100000002 := by rw [← e_y.out]; exact sz_int l_f (by omega)
  have bb_y : (dig (zmag y.num)).length ≤ 1000000000 ∧ (dig y.den).length ≤ 1000000000 := by omega
  replace bb_y := hide bb_y
  obtain ⟨t, e_t⟩ : ∃ new, x - y = new := ⟨_, rfl⟩
  replace e_t := hide e_t
  have s_t2 := sz_sub e_t.out s_x s_y
  have bb_t : (dig (zmag t.num)).length ≤ 1000000000 ∧ (dig t.den).length ≤ 1000000000 := by omega
  replace bb_t := hide bb_t
  have e_tc : qv (zneg x.num) (val (dig (zmag x.num))) (val (dig x.den)) - qv (zneg y.num) (val (dig (zmag y.num))) (val (dig y.den)) = t := by rw [qv_eta, qv_eta]; exact e_t.out
  replace e_tc := hide e_tc
  have e_tr : qv (zneg t.num) (val (dig (zmag t.num))) (val (dig t.den)) = x - (f : Rat) := by rw [qv_eta, e_y.out]; exact e_t.out.symm
  replace e_tr := hide e_tr
  have e_ff : (qv (zneg x.num) (val (dig (zmag x.num))) (val (dig x.den))).floor = f := by rw [qv_eta]; exact hf
  replace e_ff := hide e_ff
  have e_fz : iv (zneg f) (val (dig (zmag f))) = f := ivz f
  replace e_fz := hide e_fz
  have e_xx : qv (zneg x.num) (val (dig (zmag x.num))) (val (dig x.den)) = x := qv_eta x
  replace e_xx := hide e_xx
  have e_z : iv (zneg f) (val (dig (zmag f))) + iv false (val [1]) = z := by rw [ivz]; exact hz
  replace e_z := hide e_z
  have bb_f1 : (dig (zmag f)).length + 1 ≤ 70368744177664 := by have := bb_f.out; omega
  replace bb_f1 := hide bb_f1
  clear hz
  have f0 : (0 : Int) ≤ (p : Int) := by omega
  replace f0 := hide f0
  have f9 : (p : Int) ≤ 9 := by omega
  replace f9 := hide f9
  have ga : n_a ≤ 1000000000 ∧ n_ad ≤ 1000000000 := by omega
  replace ga := hide ga
  have e_T2 : iv false (val (dig T)) = (T : Int) := by rw [val_dig, iv_false]
  replace e_T2 := hide e_T2
  have gT : (dig T).length ≤ 10000000000 := by have := dl lT; omega
  replace gT := hide gT
  clear hx s_q e_x' s_x l_f s_y s_t2
  replace h1 := hide h1
  replace h7 := hide h7
  replace h9 := hide h9
  replace lT := hide lT
  replace hb := hide hb
  replace hf := hide hf
  obtain ⟨W, hW⟩ : ∃ W, W = ((w.alloc (.cells #[.bool s_a, .slice A_a n_a c_a, .slice A_ad n_ad c_ad] 27)).alloc (.cells #[.bool false, .slice none 0 0, .int .i64 0] 29)) := ⟨_, rfl⟩
  have b_a : Box3 W (w.heap.size) (.bool s_a) (.slice A_a n_a c_a) (.slice A_ad n_ad c_ad) := by rw [hW]; exact ((Box3.new w _ _ _ rfl).al _)
  have b_r0 : BoxD W (w.heap.size + 1) (.bool false) (.slice none 0 0) (.int .i64 0) := by rw [hW]; exact (BoxD.new _ _ _ _ (by simp))
  have hwW : Below w.heap.size w W := by rw [hW]; exact (((Below.refl _ _).alloc (Nat.le_refl _) _).alloc (by simp) _)
  have R_a := hide (Rd.upto h_a hwW hB)
  clear h_a
  have R_ad := hide (Rd.upto h_ad hwW hB)
  clear h_ad
  have B := hide hwW
  clear hwW
  clear hB
  have U0 : Below W.heap.size W W := Below.refl _ _
  have c_a0 := b_a.at0 b_a.lt_size (Nat.le_refl _)
  have c_a1 := b_a.at1 b_a.lt_size (Nat.le_refl _)
  have c_a2 := b_a.at2 b_a.lt_size (Nat.le_refl _)
  replace b_a := hide b_a
  have c_r00 := b_r0.at0 b_r0.lt_size (Nat.le_refl _)
  have c_r01 := b_r0.at1 b_r0.lt_size (Nat.le_refl _)
  have c_r02 := b_r0.at2 b_r0.lt_size (Nat.le_refl _)
  have f_r00 := b_r0.free0 b_r0.lt_size (Nat.le_refl _)
  have f_r01 := b_r0.free1 b_r0.lt_size (Nat.le_refl _)
  have f_r02 := b_r0.free2 b_r0.lt_size (Nat.le_refl _)
  have l_r0 := b_r0.lt b_r0.lt_size (Nat.le_refl _)
  replace b_r0 := hide b_r0
  go_enter Tryz.func10, Tryz.ntmps10
  go_wp2_with fail
  rw [← hW]
  clear hW
  refine (rplaces_yes f0.out f9.out).mono ?_
  rintro e w1 ⟨rfl, hb⟩
  replace R_a := hide (Rd.then_ R_a.out hb)
  replace R_ad := hide (Rd.then_ R_ad.out hb)
  have U1 : Below W.heap.size W w1 := Below.then_ U0 hb
  replace B := hide (Below.then_ B.out hb)
  clear hb
  go_wp2_with fail
  refine (rmode_yes h1.out h7.out).mono ?_
  rintro e w2 ⟨rfl, hb⟩
  replace R_a := hide (Rd.then_ R_a.out hb)
  replace R_ad := hide (Rd.then_ R_ad.out hb)
  have U2 : Below W.heap.size W w2 := Below.then_ U1 hb
  replace B := hide (Below.then_ B.out hb)
  clear hb
  go_wp2_with fail
  replace b_a := hide (Box3.keep b_a.out U2)
  clear c_a0 c_a1 c_a2
  replace b_r0 := hide (BoxD.keep b_r0.out U2)
  clear c_r00 c_r01 c_r02 f_r00 f_r01 f_r02 l_r0
  have U3 : Below w2.heap.size w2 w2 := Below.refl _ _
  have c_a0 := b_a.out.at0 b_a.out.lt_size (Nat.le_refl _)
  have c_a1 := b_a.out.at1 b_a.out.lt_size (Nat.le_refl _)
  have c_a2 := b_a.out.at2 b_a.out.lt_size (Nat.le_refl _)
  have c_r00 := b_r0.out.at0 b_r0.out.lt_size (Nat.le_refl _)
  have c_r01 := b_r0.out.at1 b_r0.out.lt_size (Nat.le_refl _)
  have c_r02 := b_r0.out.at2 b_r0.out.lt_size (Nat.le_refl _)
  have f_r00 := b_r0.out.free0 b_r0.out.lt_size (Nat.le_refl _)
  have f_r01 := b_r0.out.free1 b_r0.out.lt_size (Nat.le_refl _)
  have f_r02 := b_r0.out.free2 b_r0.out.lt_size (Nat.le_refl _)
  have l_r0 := b_r0.out.lt b_r0.out.lt_size (Nat.le_refl _)
  refine Code.wp_mono (Q := fun e a' w' => e = .normal ∧ ∃ (g : Nat) (A : Option Addr) (c : Nat) (B : Option Addr) (d : Nat) (v18 v19 v20 v21 v22 v23 : Value), a' = ⟨#[.agg #[.bool s_a, .slice A_a n_a c_a, .slice A_ad n_ad c_ad], .int .i64 (p : Int), .int .i64 m, (.pointer (some ⟨w.heap.size, 0, none⟩)), undef, undef, (.pointer (some ⟨w.heap.size + 1, 0, none⟩)), .int .i64 0, (.pointer (some ⟨g, 0, none⟩)), undef, .int .i64 (p : Int), .bool true, .bool false, undef, .int .i64 m, .bool true, .bool false, undef, v18, v19, v20, v21, v22, v23, undef, undef, undef, undef, undef, undef, undef, undef, undef, undef, undef, undef, undef, undef, undef, undef, undef, undef], []⟩ ∧ LandedR w2 w' g x A c B d) ?_ ?_
  rotate_left
  · skip
    have hd := Below.drw_ w2
    replace R_a := hide (Rd.then_ R_a.out hd)
    replace R_ad := hide (Rd.then_ R_ad.out hd)
    have U4 : Below w2.heap.size w2 (w2.drew) := Below.then_ U3 hd
    replace B := hide (Below.then_ B.out hd)
    clear hd
    have tok1 : True := trivial
    go_region_held3 (fun w' => Below w2.heap.size w2 w') (first | assumption | (with_reducible exact Below.al_ (by assumption) _) | (with_reducible exact Below.al_drew (by assumption) _) | (with_reducible exact (landedR_new U7 R_x.out R_xd.out).below) | (with_reducible exact (landedR_set U7 R_x.out R_xd.out X7.out).below) | (with_reducible exact (landedR_late U7 R_x.out R_xd.out).below) | fail)
      (first
        | (go_at_call 43; (have _t := tok1; (with_reducible refine (power_any h9.out e_T.out).mono ?_); rintro e w3 ⟨A_T, c_T, rfl, R_T, hb⟩; have hb1 : Below (w2.drew).heap.size (w2.drew) w3 := (by first | exact hb | exact Below.al_then hb | exact Below.al_then_drew hb); (first | (have X5 := hide (XBox3.made_drew U4 hb)) | (have X5 := hide (XBox3.made U4 hb)) | (have X5 := hide (XBox3.keep X0.out hb1)) | skip); replace R_a := hide (Rd.then_ R_a.out hb1); replace R_ad := hide (Rd.then_ R_ad.out hb1); have U5 : Below w2.heap.size w2 w3 := Below.then_ U4 hb1; replace B := hide (Below.then_ B.out hb1); clear hb1; replace R_T := hide R_T; clear hb; have tok2 : True := trivial; clear _t tok1))
        | (go_at_call 42; (have _t := tok2; (with_reducible refine (whole_to (by first | exact R_T.out | exact Rd.al_ R_T.out | exact Rd.al_drew R_T.out) gT.out (Nat.le_refl _) e_T2.out e_t0.out).mono ?_); rintro e w4 ⟨A_t0, c_t0, A_t0d, c_t0d, rfl, R_t0, R_t0d, hb⟩; have hb1 : Below w3.heap.size w3 w4 := (by first | exact hb | exact Below.al_then hb | exact Below.al_then_drew hb); (first | (have X6 := hide (XBox3.made_drew U5 hb)) | (have X6 := hide (XBox3.made U5 hb)) | (have X6 := hide (XBox3.keep X5.out hb1)) | skip); replace R_a := hide (Rd.then_ R_a.out hb1); replace R_ad := hide (Rd.then_ R_ad.out hb1); replace R_T := hide (Rd.then_ R_T.out hb1); have U6 : Below w2.heap.size w2 w4 := Below.then_ U5 hb1; replace B := hide (Below.then_ B.out hb1); clear hb1; replace R_t0 := hide R_t0; replace R_t0d := hide R_t0d; clear hb; have tok3 : True := trivial; clear _t tok2))
        | (go_at_call 41; (have _t := tok3; (with_reducible refine (rmul3w_any (by first | exact R_a.out | exact Rd.al_ R_a.out | exact Rd.al_drew R_a.out) ga.out.1 (by first | exact R_ad.out | exact Rd.al_ R_ad.out | exact Rd.al_drew R_ad.out) ga.out.2 (by first | exact R_t0.out | exact Rd.al_ R_t0.out | exact Rd.al_drew R_t0.out) (Nat.le_trans s_t.out.1 (by omega)) (by first | exact R_t0d.out | exact Rd.al_ R_t0d.out | exact Rd.al_drew R_t0d.out) (Nat.le_trans s_t.out.2 (by omega)) (Nat.le_refl _) e_x.out).mono ?_); rintro e w5 ⟨A_x, c_x, A_xd, c_xd, rfl, R_x, R_xd, hb⟩; have hb1 : Below w4.heap.size w4 w5 := (by first | exact hb | exact Below.al_then hb | exact Below.al_then_drew hb); (first | (have X7 := hide (XBox3.made_drew U6 hb)) | (have X7 := hide (XBox3.made U6 hb)) | (have X7 := hide (XBox3.keep X6.out hb1)) | skip); replace R_a := hide (Rd.then_ R_a.out hb1); replace R_ad := hide (Rd.then_ R_ad.out hb1); replace R_T := hide (Rd.then_ R_T.out hb1); replace R_t0 := hide (Rd.then_ R_t0.out hb1); replace R_t0d := hide (Rd.then_ R_t0d.out hb1); have U7 : Below w2.heap.size w2 w5 := Below.then_ U6 hb1; replace B := hide (Below.then_ B.out hb1); clear hb1; replace R_x := hide R_x; replace R_xd := hide R_xd; clear hb; have tok4 : True := trivial; clear _t tok3; (first | (have xf := XBox3.facts X7.out; obtain ⟨x0, x1, x2, x3, x4⟩ := xf) | skip))))
    all_goals (refine ⟨rfl, _, A_x, c_x, A_xd, c_xd, _, _, _, _, _, _, rfl, ?_⟩; first | exact landedR_new U7 R_x.out R_xd.out | exact landedR_set U7 R_x.out R_xd.out X7.out | exact landedR_late U7 R_x.out R_xd.out)
  rintro e a' w6 ⟨rfl, g_x, A_x, c_x, A_xd, c_xd, v18, v19, v20, v21, v22, v23, rfl, hbx, b_x, R_x, R_xd, hg_x⟩
  replace R_x := hide R_x
  replace R_xd := hide R_xd
  have ne_x_r0 : g_x ≠ w.heap.size + 1 := by have := l_r0 _ U3; omega
  replace ne_x_r0 := hide ne_x_r0
  have ne_a_x : w.heap.size ≠ g_x := by have := (b_a.out.lt b_a.out.lt_size (Nat.le_refl _)) _ U3; omega
  replace ne_a_x := hide ne_a_x
  have ne_r0_x := hide (Ne.symm ne_x_r0.out)
  have ge_x : w.heap.size ≤ g_x := by have := B.out.size; omega
  replace ge_x := hide ge_x
  clear hg_x
  replace R_a := hide (Rd.then_ R_a.out hbx)
  replace R_ad := hide (Rd.then_ R_ad.out hbx)
  have U4 : Below w2.heap.size w2 w6 := Below.then_ U3 hbx
  replace B := hide (Below.then_ B.out hbx)
  clear hbx
  replace b_a := hide (Box3.keep b_a.out U4)
  clear c_a0 c_a1 c_a2
  replace b_r0 := hide (BoxD.keep b_r0.out U4)
  clear c_r00 c_r01 c_r02 f_r00 f_r01 f_r02 l_r0
  replace b_x := hide b_x
  have U5 : Below w6.heap.size w6 w6 := Below.refl _ _
  have c_a0 := b_a.out.at0 b_a.out.lt_size (Nat.le_refl _)
  have c_a1 := b_a.out.at1 b_a.out.lt_size (Nat.le_refl _)
  have c_a2 := b_a.out.at2 b_a.out.lt_size (Nat.le_refl _)
  have c_r00 := b_r0.out.at0 b_r0.out.lt_size (Nat.le_refl _)
  have c_r01 := b_r0.out.at1 b_r0.out.lt_size (Nat.le_refl _)
  have c_r02 := b_r0.out.at2 b_r0.out.lt_size (Nat.le_refl _)
  have f_r00 := b_r0.out.free0 b_r0.out.lt_size (Nat.le_refl _)
  have f_r01 := b_r0.out.free1 b_r0.out.lt_size (Nat.le_refl _)
  have f_r02 := b_r0.out.free2 b_r0.out.lt_size (Nat.le_refl _)
  have l_r0 := b_r0.out.lt b_r0.out.lt_size (Nat.le_refl _)
  have c_x0 := b_x.out.at0 b_x.out.lt_size (Nat.le_refl _)
  have c_x1 := b_x.out.at1 b_x.out.lt_size (Nat.le_refl _)
  have c_x2 := b_x.out.at2 b_x.out.lt_size (Nat.le_refl _)
  go_wp2_with fail
  refine (rfloor3_any R_x.out bb_x.out.1 R_xd.out bb_x.out.2 (Nat.le_refl _) e_ff.out).mono ?_
  rintro e w7 ⟨A_f0, c_f0, rfl, R_f0, hb⟩
  replace R_a := hide (Rd.then_ R_a.out hb)
  replace R_ad := hide (Rd.then_ R_ad.out hb)
  replace R_x := hide (Rd.then_ R_x.out hb)
  replace R_xd := hide (Rd.then_ R_xd.out hb)
  have U6 : Below w6.heap.size w6 w7 := Below.then_ U5 hb
  replace B := hide (Below.then_ B.out hb)
  replace R_f0 := hide R_f0
  clear hb
  go_wp2_with fail
  refine (rinorm_any _ _ _ _ _ _ _ R_f0.out (Nat.le_refl _)).mono ?_
  rw [e_fz.out]
  rintro e w8 ⟨A_f, c_f, rfl, R_f, hb⟩
  replace R_a := hide (Rd.then_ R_a.out hb)
  replace R_ad := hide (Rd.then_ R_ad.out hb)
  replace R_x := hide (Rd.then_ R_x.out hb)
  replace R_xd := hide (Rd.then_ R_xd.out hb)
  replace R_f0 := hide (Rd.then_ R_f0.out hb)
  have U7 : Below w6.heap.size w6 w8 := Below.then_ U6 hb
  replace B := hide (Below.then_ B.out hb)
  replace R_f := hide R_f
  clear hb
  have hbx : Below w8.heap.size w8 (w8.alloc (.cells #[.bool (zneg f), .slice A_f (dig (zmag f)).length c_f] 25)) := ((Below.refl _ _).alloc (Nat.le_refl _) _)
  have Ux := Below.then_ U7 hbx
  go_wp2_with fail
  obtain ⟨V7, hV⟩ : ∃ V, V = (w8.alloc (.cells #[.bool (zneg f), .slice A_f (dig (zmag f)).length c_f] 25)) := ⟨_, rfl⟩
  obtain ⟨g_f, hg_f⟩ : ∃ g, g = w8.heap.size := ⟨_, rfl⟩
  rw [← hV]
  rw [← hV] at hbx Ux
  rw [← hg_f]
  have b_f : Box V7 g_f (.bool (zneg f)) (.slice A_f (dig (zmag f)).length c_f) := by rw [hV]; exact (Box.new _ _ _ hg_f)
  clear hV
  have ne_f_r0 : g_f ≠ w.heap.size + 1 := by have := l_r0 _ U7; omega
  replace ne_f_r0 := hide ne_f_r0
  have ne_a_f : w.heap.size ≠ g_f := by have := (b_a.out.lt b_a.out.lt_size (Nat.le_refl _)) _ U7; omega
  replace ne_a_f := hide ne_a_f
  have ne_r0_f := hide (Ne.symm ne_f_r0.out)
  have ne_x_f : g_x ≠ g_f := by have := (b_x.out.lt b_x.out.lt_size (Nat.le_refl _)) _ U7; omega
  replace ne_x_f := hide ne_x_f
  have ge_f : w.heap.size ≤ g_f := by have := B.out.size; omega
  replace ge_f := hide ge_f
  clear hg_f
  replace R_a := hide (Rd.then_ R_a.out hbx)
  replace R_ad := hide (Rd.then_ R_ad.out hbx)
  replace R_x := hide (Rd.then_ R_x.out hbx)
  replace R_xd := hide (Rd.then_ R_xd.out hbx)
  replace R_f0 := hide (Rd.then_ R_f0.out hbx)
  replace R_f := hide (Rd.then_ R_f.out hbx)
  have U8 : Below w6.heap.size w6 V7 := Below.then_ U7 hbx
  replace B := hide (Below.then_ B.out hbx)
  clear hbx
  replace b_a := hide (Box3.keep b_a.out U8)
  clear c_a0 c_a1 c_a2
  replace b_r0 := hide (BoxD.keep b_r0.out U8)
  clear c_r00 c_r01 c_r02 f_r00 f_r01 f_r02 l_r0
  replace b_x := hide (Box3.keep b_x.out U8)
  clear c_x0 c_x1 c_x2
  replace b_f := hide b_f
  have U9 : Below V7.heap.size V7 V7 := Below.refl _ _
  have c_a0 := b_a.out.at0 b_a.out.lt_size (Nat.le_refl _)
  have c_a1 := b_a.out.at1 b_a.out.lt_size (Nat.le_refl _)
  have c_a2 := b_a.out.at2 b_a.out.lt_size (Nat.le_refl _)
  have c_r00 := b_r0.out.at0 b_r0.out.lt_size (Nat.le_refl _)
  have c_r01 := b_r0.out.at1 b_r0.out.lt_size (Nat.le_refl _)
  have c_r02 := b_r0.out.at2 b_r0.out.lt_size (Nat.le_refl _)
  have f_r00 := b_r0.out.free0 b_r0.out.lt_size (Nat.le_refl _)
  have f_r01 := b_r0.out.free1 b_r0.out.lt_size (Nat.le_refl _)
  have f_r02 := b_r0.out.free2 b_r0.out.lt_size (Nat.le_refl _)
  have l_r0 := b_r0.out.lt b_r0.out.lt_size (Nat.le_refl _)
  have c_x0 := b_x.out.at0 b_x.out.lt_size (Nat.le_refl _)
  have c_x1 := b_x.out.at1 b_x.out.lt_size (Nat.le_refl _)
  have c_x2 := b_x.out.at2 b_x.out.lt_size (Nat.le_refl _)
  have c_f0 := b_f.out.at0 b_f.out.lt_size (Nat.le_refl _)
  have c_f1 := b_f.out.at1 b_f.out.lt_size (Nat.le_refl _)
  have f_f0 := b_f.out.free0 b_f.out.lt_size (Nat.le_refl _)
  have f_f1 := b_f.out.free1 b_f.out.lt_size (Nat.le_refl _)
  have l_f := b_f.out.lt b_f.out.lt_size (Nat.le_refl _)
  have hd := Below.drw_ V7
  replace R_a := hide (Rd.then_ R_a.out hd)
  replace R_ad := hide (Rd.then_ R_ad.out hd)
  replace R_x := hide (Rd.then_ R_x.out hd)
  replace R_xd := hide (Rd.then_ R_xd.out hd)
  replace R_f0 := hide (Rd.then_ R_f0.out hd)
  replace R_f := hide (Rd.then_ R_f.out hd)
  have U10 : Below V7.heap.size V7 (V7.drew) := Below.then_ U9 hd
  replace B := hide (Below.then_ B.out hd)
  clear hd
  have tok1 : True := trivial
  go_region_held3 (fun w' => Below V7.heap.size V7 w') (assumption)
    (first
      | (go_at_call 42; (have _t := tok1; (with_reducible refine (whole_to R_f.out (by have := bb_f.out; omega) (Nat.le_refl _) e_fz.out e_y.out).mono ?_); rintro e w9 ⟨A_y, c_y, A_yd, c_yd, rfl, R_y, R_yd, hb⟩; replace R_a := hide (Rd.then_ R_a.out hb); replace R_ad := hide (Rd.then_ R_ad.out hb); replace R_x := hide (Rd.then_ R_x.out hb); replace R_xd := hide (Rd.then_ R_xd.out hb); replace R_f0 := hide (Rd.then_ R_f0.out hb); replace R_f := hide (Rd.then_ R_f.out hb); have U11 : Below V7.heap.size V7 w9 := Below.then_ U10 hb; replace B := hide (Below.then_ B.out hb); replace R_y := hide R_y; replace R_yd := hide R_yd; clear hb; have tok2 : True := trivial; clear _t tok1))
      | (go_at_call 47; (have _t := tok2; (with_reducible refine (rsub3_any R_x.out bb_x.out.1 R_xd.out bb_x.out.2 R_y.out bb_y.out.1 R_yd.out bb_y.out.2 (Nat.le_refl _) e_tc.out).mono ?_); rintro e w10 ⟨A_t, c_t, A_td, c_td, rfl, R_t, R_td, hb⟩; replace R_a := hide (Rd.then_ R_a.out hb); replace R_ad := hide (Rd.then_ R_ad.out hb); replace R_x := hide (Rd.then_ R_x.out hb); replace R_xd := hide (Rd.then_ R_xd.out hb); replace R_f0 := hide (Rd.then_ R_f0.out hb); replace R_f := hide (Rd.then_ R_f.out hb); replace R_y := hide (Rd.then_ R_y.out hb); replace R_yd := hide (Rd.then_ R_yd.out hb); have U12 : Below V7.heap.size V7 w10 := Below.then_ U11 hb; replace B := hide (Below.then_ B.out hb); replace R_t := hide R_t; replace R_td := hide R_td; clear hb; have tok3 : True := trivial; clear _t tok2))
      | (go_at_call 46; (have _t := tok3; (with_reducible refine (up_any R_x.out bb_x.out.1 R_xd.out bb_x.out.2 R_f.out bb_f.out R_t.out bb_t.out.1 R_td.out bb_t.out.2 (Nat.le_refl _) h1.out h7.out e_xx.out hf.out e_tr.out hb.out).mono ?_); rintro e w11 ⟨rfl, hb⟩; replace R_a := hide (Rd.then_ R_a.out hb); replace R_ad := hide (Rd.then_ R_ad.out hb); replace R_x := hide (Rd.then_ R_x.out hb); replace R_xd := hide (Rd.then_ R_xd.out hb); replace R_f0 := hide (Rd.then_ R_f0.out hb); replace R_f := hide (Rd.then_ R_f.out hb); replace R_y := hide (Rd.then_ R_y.out hb); replace R_yd := hide (Rd.then_ R_yd.out hb); replace R_t := hide (Rd.then_ R_t.out hb); replace R_td := hide (Rd.then_ R_td.out hb); have U13 : Below V7.heap.size V7 w11 := Below.then_ U12 hb; replace B := hide (Below.then_ B.out hb); clear hb; have tok4 : True := trivial; clear _t tok3)))
  clear tok4
  have hbx : Below w11.heap.size w11 (w11.alloc (.cells #[.int .u32 1] 46)) := ((Below.refl _ _).alloc (Nat.le_refl _) _)
  go_wp2_with fail
  obtain ⟨V13, hV⟩ : ∃ V, V = (w11.alloc (.cells #[.int .u32 1] 46)) := ⟨_, rfl⟩
  obtain ⟨g_o, hg_o⟩ : ∃ g, g = w11.heap.size := ⟨_, rfl⟩
  rw [← hV]
  rw [← hV] at hbx
  rw [← hg_o]
  have R_o : Rd V13 V13.heap.size (some ⟨g_o, 0, none⟩) 1 1 [1] := by rw [hV]; exact (Rd.limb1 _ hg_o (by omega) rfl)
  replace R_o := hide R_o
  clear hV hg_o
  replace R_a := hide (Rd.then_ R_a.out hbx)
  replace R_ad := hide (Rd.then_ R_ad.out hbx)
  replace R_x := hide (Rd.then_ R_x.out hbx)
  replace R_xd := hide (Rd.then_ R_xd.out hbx)
  replace R_f0 := hide (Rd.then_ R_f0.out hbx)
  replace R_f := hide (Rd.then_ R_f.out hbx)
  replace R_y := hide (Rd.then_ R_y.out hbx)
  replace R_yd := hide (Rd.then_ R_yd.out hbx)
  replace R_t := hide (Rd.then_ R_t.out hbx)
  replace R_td := hide (Rd.then_ R_td.out hbx)
  have U14 : Below V7.heap.size V7 V13 := Below.then_ U13 hbx
  replace B := hide (Below.then_ B.out hbx)
  clear hbx
  refine (riadd_any _ _ _ false _ _ _ _ _ _ _ _ R_f.out R_o.out (Nat.le_refl _) bb_f1.out (by omega)).mono ?_
  rw [e_z.out]
  rintro e w12 ⟨A_z, c_z, rfl, R_z, hb⟩
  replace R_a := hide (Rd.then_ R_a.out hb)
  replace R_ad := hide (Rd.then_ R_ad.out hb)
  replace R_x := hide (Rd.then_ R_x.out hb)
  replace R_xd := hide (Rd.then_ R_xd.out hb)
  replace R_f0 := hide (Rd.then_ R_f0.out hb)
  replace R_f := hide (Rd.then_ R_f.out hb)
  replace R_y := hide (Rd.then_ R_y.out hb)
  replace R_yd := hide (Rd.then_ R_yd.out hb)
  replace R_t := hide (Rd.then_ R_t.out hb)
  replace R_td := hide (Rd.then_ R_td.out hb)
  replace R_o := hide (Rd.then_ R_o.out hb)
  have U15 : Below V7.heap.size V7 w12 := Below.then_ U14 hb
  replace B := hide (Below.then_ B.out hb)
  replace R_z := hide R_z
  clear hb
  have nrf := ne_r0_f.out
  go_wp2
  exact bodyPost_ret (v := .tuple #[.agg #[.bool (zneg z), .slice A_z (dig (zmag z)).length c_z, .int .i64 (p : Int)], .int .i64 0]) (by simp [results, Tryz.results10, go_sem, c_r00 _ U15, c_r01 _ U15, c_r02 _ U15]) rfl (RetDec.box (w2 := ((w12.setCell ⟨g_f, 0, none⟩ (.bool (zneg z))).setCell ⟨g_f, 1, none⟩ (.slice A_z (dig (zmag z)).length c_z))) ((B.out.setCell ge_f.out _).setCell ge_f.out _) (by omega) ((World.cell?_setCell_other _ _ _ _ (by simp)).trans ((World.cell?_setCell_other _ _ _ _ (by simp)).trans (c_r00 _ U15))) ((World.cell?_setCell_other _ _ _ _ (by simp)).trans ((World.cell?_setCell_other _ _ _ _ (by simp)).trans (c_r01 _ U15))) ((World.cell?_setCell_other _ _ _ _ (by simp)).trans ((World.cell?_setCell_other _ _ _ _ (by simp)).trans (c_r02 _ U15))) (by simpa using far2 (c_f0 _ U15) (c_f1 _ U15) _ _ R_z.out))

theorem rround_any {w : World} {Bd : Nat} {A_a : Option Addr} {n_a c_a : Nat} {x_a : List Nat} {s_a : Bool} {A_ad : Option Addr} {n_ad c_ad : Nat} {x_ad : List Nat} (h_a : Rd w Bd A_a n_a c_a x_a) (g_a : n_a ≤ 100000000) (h_ad : Rd w Bd A_ad n_ad c_ad x_ad) (g_ad : n_ad ≤ 100000000) (hB : Bd ≤ w.heap.size) {p : Nat} {m : Int} (h9 : p ≤ 9) (h1 : 1 ≤ m) (h7 : m ≤ 7) {x : Rat} {z : Int} (hx : qv s_a (val x_a) (val x_ad) * ((10 ^ p : Nat) : Rat) = x) (hz : rnd m x = z) :
    Calls Tryz.prog 10 #[.agg #[.bool s_a, .slice A_a n_a c_a, .slice A_ad n_ad c_ad], .int .i64 (p : Int), .int .i64 m] w (RetDec w z (p : Int) 0) := by
  unfold rnd at hz
  by_cases h0 : x = (x.floor : Rat)
  · rw [if_pos h0] at hz
    exact rround_low h_a g_a h_ad g_ad hB h9 h1 h7 hx rfl (by rw [if_pos h0]) hz
  · rw [if_neg h0] at hz
    split at hz
    · rename_i hu
      exact rround_high h_a g_a h_ad g_ad hB h9 h1 h7 hx rfl (by rw [if_neg h0]; exact hu) hz
    · rename_i hu
      exact rround_low h_a g_a h_ad g_ad hB h9 h1 h7 hx rfl (by rw [if_neg h0]; simpa using hu) hz
theorem rround_bad {w : World} {Bd : Nat} {A_a : Option Addr} {n_a c_a : Nat} {x_a : List Nat} {s_a : Bool} {A_ad : Option Addr} {n_ad c_ad : Nat} {x_ad : List Nat} (h_a : Rd w Bd A_a n_a c_a x_a) (g_a : n_a ≤ 100000000) (h_ad : Rd w Bd A_ad n_ad c_ad x_ad) (g_ad : n_ad ≤ 100000000) (hB : Bd ≤ w.heap.size) {p m e : Int} (h : ¬ (0 ≤ p ∧ p ≤ 9 ∧ 1 ≤ m ∧ m ≤ 7)) (he : (if 0 ≤ p ∧ p ≤ 9 then 1 else 3) = e) :
    Calls Tryz.prog 10 #[.agg #[.bool s_a, .slice A_a n_a c_a, .slice A_ad n_ad c_ad], .int .i64 p, .int .i64 m] w (RetDec w 0 0 e) := by
  by_cases hp : 0 ≤ p ∧ p ≤ 9
  · rw [if_pos hp] at he
    subst he
    exact rround_mode h_a (by omega) h_ad (by omega) hB hp.1 hp.2 (fun hm => h ⟨hp.1, hp.2, hm.1, hm.2⟩)
  · rw [if_neg hp] at he
    subst he
    exact rround_place h_a (by omega) h_ad (by omega) hB hp
theorem rround0_any {w : World} {Bd : Nat} {A_a : Option Addr} {n_a c_a : Nat} {x_a : List Nat} {s_a : Bool} {A_ad : Option Addr} {n_ad c_ad : Nat} {x_ad : List Nat} (h_a : Rd w Bd A_a n_a c_a x_a) (g_a : n_a ≤ 100000000) (h_ad : Rd w Bd A_ad n_ad c_ad x_ad) (g_ad : n_ad ≤ 100000000) (hB : Bd ≤ w.heap.size) {m : Int} (h1 : 1 ≤ m) (h7 : m ≤ 7) {x : Rat} {z : Int} (hx : qv s_a (val x_a) (val x_ad) * ((10 ^ 0 : Nat) : Rat) = x) (hz : rnd m x = z) :
    Calls Tryz.prog 10 #[.agg #[.bool s_a, .slice A_a n_a c_a, .slice A_ad n_ad c_ad], .int .i64 0, .int .i64 m] w (RetDec w z 0 0) := rround_any (p := 0) h_a g_a h_ad g_ad hB (by omega) h1 h7 hx hz
theorem rround0_bad {w : World} {Bd : Nat} {A_a : Option Addr} {n_a c_a : Nat} {x_a : List Nat} {s_a : Bool} {A_ad : Option Addr} {n_ad c_ad : Nat} {x_ad : List Nat} (h_a : Rd w Bd A_a n_a c_a x_a) (g_a : n_a ≤ 100000000) (h_ad : Rd w Bd A_ad n_ad c_ad x_ad) (g_ad : n_ad ≤ 100000000) (hB : Bd ≤ w.heap.size) {m : Int} (h : ¬ (1 ≤ m ∧ m ≤ 7)) :
    Calls Tryz.prog 10 #[.agg #[.bool s_a, .slice A_a n_a c_a, .slice A_ad n_ad c_ad], .int .i64 0, .int .i64 m] w (RetDec w 0 0 1) := rround_bad h_a g_a h_ad g_ad hB (fun x => h x.2.2) (by rfl)

set_option maxHeartbeats 4000000 in
theorem rinteger_ok {w : World} {Bd : Nat} {A_a : Option Addr} {n_a c_a : Nat} {x_a : List Nat} {s_a : Bool} {A_ad : Option Addr} {n_ad c_ad : Nat} {x_ad : List Nat} {m : Int} (h_a : Rd w Bd A_a n_a c_a x_a) (g_a : n_a ≤ 100000000) (h_ad : Rd w Bd A_ad n_ad c_ad x_ad) (g_ad : n_ad ≤ 100000000) (hB : Bd ≤ w.heap.size) {x : Rat} {z : Int} (h1 : 1 ≤ m) (h7 : m ≤ 7) (hx : qv s_a (val x_a) (val x_ad) * ((10 ^ 0 : Nat) : Rat) = x) (hz : rnd m x = z) :
    Calls Tryz.prog 13 #[.agg #[.bool s_a, .slice A_a n_a c_a, .slice A_ad n_ad c_ad], .int .i64 m] w (RetIV w z 0) := by
  replace h1 := hide h1
  replace h7 := hide h7
  replace hx := hide hx
  replace hz := hide hz
  obtain ⟨W, hW⟩ : ∃ W, W = ((w.alloc (.cells #[.bool s_a, .slice A_a n_a c_a, .slice A_ad n_ad c_ad] 27)).alloc (.cells #[.bool false, .slice none 0 0] 25)) := ⟨_, rfl⟩
  have b_a : Box3 W (w.heap.size) (.bool s_a) (.slice A_a n_a c_a) (.slice A_ad n_ad c_ad) := by rw [hW]; exact ((Box3.new w _ _ _ rfl).al _)
  have b_r0 : Box W (w.heap.size + 1) (.bool false) (.slice none 0 0) := by rw [hW]; exact (Box.new _ _ _ (by simp))
  have hwW : Below w.heap.size w W := by rw [hW]; exact (((Below.refl _ _).alloc (Nat.le_refl _) _).alloc (by simp) _)
  have R_a := hide (Rd.upto h_a hwW hB)
  clear h_a
  have R_ad := hide (Rd.upto h_ad hwW hB)
  clear h_ad
  have B := hide hwW
  clear hwW
  clear hB
  have U0 : Below W.heap.size W W := Below.refl _ _
  have c_a0 := b_a.at0 b_a.lt_size (Nat.le_refl _)
  have c_a1 := b_a.at1 b_a.lt_size (Nat.le_refl _)
  have c_a2 := b_a.at2 b_a.lt_size (Nat.le_refl _)
  replace b_a := hide b_a
  have c_r00 := b_r0.at0 b_r0.lt_size (Nat.le_refl _)
  have c_r01 := b_r0.at1 b_r0.lt_size (Nat.le_refl _)
  have f_r00 := b_r0.free0 b_r0.lt_size (Nat.le_refl _)
  have f_r01 := b_r0.free1 b_r0.lt_size (Nat.le_refl _)
  have l_r0 := b_r0.lt b_r0.lt_size (Nat.le_refl _)
  replace b_r0 := hide b_r0
  go_enter Tryz.func13, Tryz.ntmps13
  go_wp2_with fail
  rw [← hW]
  clear hW
  refine (rround0_any R_a.out g_a R_ad.out g_ad (Nat.le_refl _) h1.out h7.out hx.out hz.out).mono ?_
  rintro e w1 ⟨A_d, c_d, rfl, R_d, hb⟩
  replace R_a := hide (Rd.then_ R_a.out hb)
  replace R_ad := hide (Rd.then_ R_ad.out hb)
  have U1 : Below W.heap.size W w1 := Below.then_ U0 hb
  replace B := hide (Below.then_ B.out hb)
  replace R_d := hide R_d
  clear hb
  go_wp2
  exact bodyPost_ret (v := .tuple #[.agg #[.bool (zneg z), .slice A_d (dig (zmag z)).length c_d], .int .i64 0]) (by simp [results, Tryz.results13, go_sem, c_r00 _ U1, c_r01 _ U1, l_r0 _ U1]) rfl (RetIV.al (RetIV.box B.out (by omega) (c_r00 _ U1) (c_r01 _ U1) R_d.out) _)

set_option maxHeartbeats 4000000 in
theorem rinteger_bad {w : World} {Bd : Nat} {A_a : Option Addr} {n_a c_a : Nat} {x_a : List Nat} {s_a : Bool} {A_ad : Option Addr} {n_ad c_ad : Nat} {x_ad : List Nat} {m : Int} (h_a : Rd w Bd A_a n_a c_a x_a) (g_a : n_a ≤ 100000000) (h_ad : Rd w Bd A_ad n_ad c_ad x_ad) (g_ad : n_ad ≤ 100000000) (hB : Bd ≤ w.heap.size) (hm : ¬ (1 ≤ m ∧ m ≤ 7)) :
    Calls Tryz.prog 13 #[.agg #[.bool s_a, .slice A_a n_a c_a, .slice A_ad n_ad c_ad], .int .i64 m] w (RetIV w 0 1) := by
  replace hm := hide hm
  obtain ⟨W, hW⟩ : ∃ W, W = ((w.alloc (.cells #[.bool s_a, .slice A_a n_a c_a, .slice A_ad n_ad c_ad] 27)).alloc (.cells #[.bool false, .slice none 0 0] 25)) := ⟨_, rfl⟩
  have b_a : Box3 W (w.heap.size) (.bool s_a) (.slice A_a n_a c_a) (.slice A_ad n_ad c_ad) := by rw [hW]; exact ((Box3.new w _ _ _ rfl).al _)
  have b_r0 : Box W (w.heap.size + 1) (.bool false) (.slice none 0 0) := by rw [hW]; exact (Box.new _ _ _ (by simp))
  have hwW : Below w.heap.size w W := by rw [hW]; exact (((Below.refl _ _).alloc (Nat.le_refl _) _).alloc (by simp) _)
  have R_a := hide (Rd.upto h_a hwW hB)
  clear h_a
  have R_ad := hide (Rd.upto h_ad hwW hB)
  clear h_ad
  have B := hide hwW
  clear hwW
  clear hB
  have U0 : Below W.heap.size W W := Below.refl _ _
  have c_a0 := b_a.at0 b_a.lt_size (Nat.le_refl _)
  have c_a1 := b_a.at1 b_a.lt_size (Nat.le_refl _)
  have c_a2 := b_a.at2 b_a.lt_size (Nat.le_refl _)
  replace b_a := hide b_a
  have c_r00 := b_r0.at0 b_r0.lt_size (Nat.le_refl _)
  have c_r01 := b_r0.at1 b_r0.lt_size (Nat.le_refl _)
  have f_r00 := b_r0.free0 b_r0.lt_size (Nat.le_refl _)
  have f_r01 := b_r0.free1 b_r0.lt_size (Nat.le_refl _)
  have l_r0 := b_r0.lt b_r0.lt_size (Nat.le_refl _)
  replace b_r0 := hide b_r0
  go_enter Tryz.func13, Tryz.ntmps13
  go_wp2_with fail
  rw [← hW]
  clear hW
  refine (rround0_bad R_a.out g_a R_ad.out g_ad (Nat.le_refl _) hm.out).mono ?_
  rintro e w1 ⟨A_d, c_d, rfl, R_d, hb⟩
  replace R_a := hide (Rd.then_ R_a.out hb)
  replace R_ad := hide (Rd.then_ R_ad.out hb)
  have U1 : Below W.heap.size W w1 := Below.then_ U0 hb
  replace B := hide (Below.then_ B.out hb)
  replace R_d := hide R_d
  clear hb
  go_wp2
  exact bodyPost_ret (v := .tuple #[.agg #[.bool (zneg 0), .slice A_d (dig (zmag 0)).length c_d], .int .i64 1]) (by simp [results, Tryz.results13, go_sem, c_r00 _ U1, c_r01 _ U1, l_r0 _ U1]) rfl (RetIV.al (RetIV.box B.out (by omega) (c_r00 _ U1) (c_r01 _ U1) R_d.out) _)

theorem rinteger_any {w : World} {Bd : Nat} {A_a : Option Addr} {n_a c_a : Nat} {x_a : List Nat} {s_a : Bool} {A_ad : Option Addr} {n_ad c_ad : Nat} {x_ad : List Nat} (h_a : Rd w Bd A_a n_a c_a x_a) (g_a : n_a ≤ 100000000) (h_ad : Rd w Bd A_ad n_ad c_ad x_ad) (g_ad : n_ad ≤ 100000000) (hB : Bd ≤ w.heap.size) {m x : Int} {e : Int} (hm : (if 1 ≤ m ∧ m ≤ 7 then rnd m (qv s_a (val x_a) (val x_ad)) else 0) = x) (he : (if 1 ≤ m ∧ m ≤ 7 then 0 else 1) = e) :
    Calls Tryz.prog 13 #[.agg #[.bool s_a, .slice A_a n_a c_a, .slice A_ad n_ad c_ad], .int .i64 m] w (RetIV w x e) := by
  by_cases h : 1 ≤ m ∧ m ≤ 7
  · rw [if_pos h] at hm he
    subst he
    exact rinteger_ok h_a g_a h_ad g_ad hB h.1 h.2 (by rw [Nat.pow_zero]; exact Rat.mul_one _) hm
  · rw [if_neg h] at hm he
    subst he hm
    exact rinteger_bad h_a g_a h_ad g_ad hB h
end
end Go.Proofs.YtdlmfembnmomjaaGreatDoor
