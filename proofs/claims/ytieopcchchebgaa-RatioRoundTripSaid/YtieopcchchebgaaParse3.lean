/-
  Parse of ratio.
-/
import Derived.Test.YtieopcchchebgaaRat3
import Derived.Test.YtieopcchchebgaaCutStr
namespace Go.Proofs.Ytieopcchchebgaa
open Go.RowKit


/-- what Parse hands back -/
def RetRV (w : World) (q : Rat) (k : Int) (e : Ending) (w' : World) : Prop :=
  ∃ A c B d, e = .returned (.tuple #[.agg #[.bool (zneg q.num), .slice A (dig (zmag q.num)).length c, .slice B (dig q.den).length d], .int .i64 k]) ∧
    Rd w' w'.heap.size A (dig (zmag q.num)).length c (dig (zmag q.num)) ∧ Rd w' w'.heap.size B (dig q.den).length d (dig q.den) ∧ Below w.heap.size w w'
theorem RetRV.box {w w2 : World} {q : Rat} {k : Int} {A B B1 B2 : Option Addr} {c d n1 d1 n2 d2 g : Nat} {b : Bool} (hb : Below w.heap.size w w2) (hg : w.heap.size ≤ g)
    (hc0 : w2.cell? ⟨g, 0, none⟩ = some (.bool b)) (hc1 : w2.cell? ⟨g, 1, none⟩ = some (.slice B1 n1 d1)) (hc2 : w2.cell? ⟨g, 2, none⟩ = some (.slice B2 n2 d2))
    (R : Rd w2 w2.heap.size A (dig (zmag q.num)).length c (dig (zmag q.num))) (R' : Rd w2 w2.heap.size B (dig q.den).length d (dig q.den)) :
    RetRV w q k (.returned (.tuple #[.agg #[.bool (zneg q.num), .slice A (dig (zmag q.num)).length c, .slice B (dig q.den).length d], .int .i64 k])) (((w2.setCell ⟨g, 0, none⟩ (.bool (zneg q.num))).setCell ⟨g, 1, none⟩ (.slice A (dig (zmag q.num)).length c)).setCell ⟨g, 2, none⟩ (.slice B (dig q.den).length d)) :=
  ⟨A, c, B, d, rfl, by simpa using far3 hc0 hc1 hc2 _ _ _ R, by simpa using far3 hc0 hc1 hc2 _ _ _ R', ((hb.setCell hg _).setCell hg _).setCell hg _⟩

set_option maxHeartbeats 4000000 in
theorem pparse_num {w : World} {s b a : ByteArray}  {q : Rat} {z k : Int} {f : Bool} (hc : ∀ w, Calls Try.prog 81 #[.string s, .string ⟨#[47]⟩] w (RetB w (.tuple #[.string b, .string a, .bool f]))) (hn : ∀ w, Calls Try.prog 82 #[.string b] w (RetIV w z k)) (hk : k ≠ 0) (hq : (0 : Rat) = q) :
    Calls Try.prog 43 #[.string s] w (RetRV w q k) := by
  replace hc := hide hc
  replace hn := hide hn
  have h1 : (k != 0) = true := by simpa using hk
  replace hq := hide hq
  clear hk
  obtain ⟨W, hW⟩ : ∃ W, W = (w.alloc (.cells #[.bool false, .slice none 0 0, .slice none 0 0] 27)) := ⟨_, rfl⟩
  have b_r0 : Box3 W (w.heap.size) (.bool false) (.slice none 0 0) (.slice none 0 0) := by rw [hW]; exact (Box3.new w _ _ _ rfl)
  have hwW : Below w.heap.size w W := by rw [hW]; exact ((Below.refl _ _).alloc (Nat.le_refl _) _)
  have B := hide hwW
  clear hwW
  have U0 : Below W.heap.size W W := Below.refl _ _
  have c_r00 := b_r0.at0 b_r0.lt_size (Nat.le_refl _)
  have c_r01 := b_r0.at1 b_r0.lt_size (Nat.le_refl _)
  have c_r02 := b_r0.at2 b_r0.lt_size (Nat.le_refl _)
  have f_r00 := b_r0.free0 b_r0.lt_size (Nat.le_refl _)
  have f_r01 := b_r0.free1 b_r0.lt_size (Nat.le_refl _)
  have f_r02 := b_r0.free2 b_r0.lt_size (Nat.le_refl _)
  have l_r0 := b_r0.lt b_r0.lt_size (Nat.le_refl _)
  replace b_r0 := hide b_r0
  go_enter Try.func43, Try.ntmps43
  go_wp2_with fail
  rw [← hW]
  clear hW
  refine (hc.out _).mono ?_
  rintro e w1 ⟨rfl, hb⟩
  have U1 : Below W.heap.size W w1 := Below.then_ U0 hb
  replace B := hide (Below.then_ B.out hb)
  clear hb
  go_wp2_with fail
  refine (hn.out _).mono ?_
  rintro e w2 ⟨A_n, c_n, rfl, R_n, hb⟩
  have U2 : Below W.heap.size W w2 := Below.then_ U1 hb
  replace B := hide (Below.then_ B.out hb)
  replace R_n := hide R_n
  clear hb
  have hbx : Below w2.heap.size w2 (w2.alloc (.cells #[.bool (zneg z), .slice A_n (dig (zmag z)).length c_n] 25)) := ((Below.refl _ _).alloc (Nat.le_refl _) _)
  have Ux := Below.then_ U2 hbx
  go_wp2_with fail
  obtain ⟨V2, hV⟩ : ∃ V, V = (w2.alloc (.cells #[.bool (zneg z), .slice A_n (dig (zmag z)).length c_n] 25)) := ⟨_, rfl⟩
  obtain ⟨g_n, hg_n⟩ : ∃ g, g = w2.heap.size := ⟨_, rfl⟩
  rw [← hV]
  rw [← hV] at hbx Ux
  rw [← hg_n]
  have b_n : Box V2 g_n (.bool (zneg z)) (.slice A_n (dig (zmag z)).length c_n) := by rw [hV]; exact (Box.new _ _ _ hg_n)
  clear hV
  have ne_n_r0 : g_n ≠ w.heap.size := by have := l_r0 _ U2; omega
  replace ne_n_r0 := hide ne_n_r0
  have ne_r0_n := hide (Ne.symm ne_n_r0.out)
  have ge_n : w.heap.size ≤ g_n := by have := B.out.size; omega
  replace ge_n := hide ge_n
  clear hg_n
  replace R_n := hide (Rd.then_ R_n.out hbx)
  have U3 : Below W.heap.size W V2 := Below.then_ U2 hbx
  replace B := hide (Below.then_ B.out hbx)
  clear hbx
  replace b_r0 := hide (Box3.keep b_r0.out U3)
  clear c_r00 c_r01 c_r02 f_r00 f_r01 f_r02 l_r0
  replace b_n := hide b_n
  have U4 : Below V2.heap.size V2 V2 := Below.refl _ _
  have c_r00 := b_r0.out.at0 b_r0.out.lt_size (Nat.le_refl _)
  have c_r01 := b_r0.out.at1 b_r0.out.lt_size (Nat.le_refl _)
  have c_r02 := b_r0.out.at2 b_r0.out.lt_size (Nat.le_refl _)
  have f_r00 := b_r0.out.free0 b_r0.out.lt_size (Nat.le_refl _)
  have f_r01 := b_r0.out.free1 b_r0.out.lt_size (Nat.le_refl _)
  have f_r02 := b_r0.out.free2 b_r0.out.lt_size (Nat.le_refl _)
  have l_r0 := b_r0.out.lt b_r0.out.lt_size (Nat.le_refl _)
  have c_n0 := b_n.out.at0 b_n.out.lt_size (Nat.le_refl _)
  have c_n1 := b_n.out.at1 b_n.out.lt_size (Nat.le_refl _)
  refine (zero_any hq.out).mono ?_
  rintro e w3 ⟨A_q, c_q, A_qd, c_qd, rfl, R_q, R_qd, hb⟩
  replace R_n := hide (Rd.then_ R_n.out hb)
  have U5 : Below V2.heap.size V2 w3 := Below.then_ U4 hb
  replace B := hide (Below.then_ B.out hb)
  replace R_q := hide R_q
  replace R_qd := hide R_qd
  clear hb
  go_wp2
  exact bodyPost_ret (v := .tuple #[.agg #[.bool (zneg q.num), .slice A_q (dig (zmag q.num)).length c_q, .slice A_qd (dig q.den).length c_qd], .int .i64 k]) (by simp [results, Try.results43, go_sem, c_r00 _ U5, c_r01 _ U5, c_r02 _ U5]) rfl (RetRV.box B.out (by omega) (c_r00 _ U5) (c_r01 _ U5) (c_r02 _ U5) R_q.out R_qd.out)

set_option maxHeartbeats 4000000 in
theorem pparse_int {w : World} {s b a : ByteArray}  {q : Rat} {z k : Int} (hc : ∀ w, Calls Try.prog 81 #[.string s, .string ⟨#[47]⟩] w (RetB w (.tuple #[.string b, .string a, .bool false]))) (hn : ∀ w, Calls Try.prog 82 #[.string b] w (RetIV w z k)) (hk : k = 0) (hq : mkRat z 1 = q) (hl : (dig (zmag z)).length ≤ 10000000000) :
    Calls Try.prog 43 #[.string s] w (RetRV w q 0) := by
  replace hc := hide hc
  replace hn := hide hn
  subst hk
  have h1 : ((bl (val (dig 1)) : Int) == 0) = false := ofne (by rw [val_dig]; omega)
  have e_q : qv (zneg z) (val (dig (zmag z))) (val (dig 1)) = q := by rw [qvz]; exact hq
  replace e_q := hide e_q
  clear hq
  replace hl := hide hl
  have hl1 : (dig 1).length ≤ 10000000000 := by rw [dig_one]; exact (by omega : 1 ≤ 10000000000)
  replace hl1 := hide hl1
  obtain ⟨W, hW⟩ : ∃ W, W = (w.alloc (.cells #[.bool false, .slice none 0 0, .slice none 0 0] 27)) := ⟨_, rfl⟩
  have b_r0 : Box3 W (w.heap.size) (.bool false) (.slice none 0 0) (.slice none 0 0) := by rw [hW]; exact (Box3.new w _ _ _ rfl)
  have hwW : Below w.heap.size w W := by rw [hW]; exact ((Below.refl _ _).alloc (Nat.le_refl _) _)
  have B := hide hwW
  clear hwW
  have U0 : Below W.heap.size W W := Below.refl _ _
  have c_r00 := b_r0.at0 b_r0.lt_size (Nat.le_refl _)
  have c_r01 := b_r0.at1 b_r0.lt_size (Nat.le_refl _)
  have c_r02 := b_r0.at2 b_r0.lt_size (Nat.le_refl _)
  have f_r00 := b_r0.free0 b_r0.lt_size (Nat.le_refl _)
  have f_r01 := b_r0.free1 b_r0.lt_size (Nat.le_refl _)
  have f_r02 := b_r0.free2 b_r0.lt_size (Nat.le_refl _)
  have l_r0 := b_r0.lt b_r0.lt_size (Nat.le_refl _)
  replace b_r0 := hide b_r0
  go_enter Try.func43, Try.ntmps43
  go_wp2_with fail
  rw [← hW]
  clear hW
  refine (hc.out _).mono ?_
  rintro e w1 ⟨rfl, hb⟩
  have U1 : Below W.heap.size W w1 := Below.then_ U0 hb
  replace B := hide (Below.then_ B.out hb)
  clear hb
  go_wp2_with fail
  refine (hn.out _).mono ?_
  rintro e w2 ⟨A_n, c_n, rfl, R_n, hb⟩
  have U2 : Below W.heap.size W w2 := Below.then_ U1 hb
  replace B := hide (Below.then_ B.out hb)
  replace R_n := hide R_n
  clear hb
  have hbx : Below w2.heap.size w2 (w2.alloc (.cells #[.bool (zneg z), .slice A_n (dig (zmag z)).length c_n] 25)) := ((Below.refl _ _).alloc (Nat.le_refl _) _)
  have Ux := Below.then_ U2 hbx
  go_wp2_with fail
  obtain ⟨V2, hV⟩ : ∃ V, V = (w2.alloc (.cells #[.bool (zneg z), .slice A_n (dig (zmag z)).length c_n] 25)) := ⟨_, rfl⟩
  obtain ⟨g_n, hg_n⟩ : ∃ g, g = w2.heap.size := ⟨_, rfl⟩
  rw [← hV]
  rw [← hV] at hbx Ux
  rw [← hg_n]
  have b_n : Box V2 g_n (.bool (zneg z)) (.slice A_n (dig (zmag z)).length c_n) := by rw [hV]; exact (Box.new _ _ _ hg_n)
  clear hV
  have ne_n_r0 : g_n ≠ w.heap.size := by have := l_r0 _ U2; omega
  replace ne_n_r0 := hide ne_n_r0
  have ne_r0_n := hide (Ne.symm ne_n_r0.out)
  have ge_n : w.heap.size ≤ g_n := by have := B.out.size; omega
  replace ge_n := hide ge_n
  clear hg_n
  replace R_n := hide (Rd.then_ R_n.out hbx)
  have U3 : Below W.heap.size W V2 := Below.then_ U2 hbx
  replace B := hide (Below.then_ B.out hbx)
  clear hbx
  replace b_r0 := hide (Box3.keep b_r0.out U3)
  clear c_r00 c_r01 c_r02 f_r00 f_r01 f_r02 l_r0
  replace b_n := hide b_n
  have U4 : Below V2.heap.size V2 V2 := Below.refl _ _
  have c_r00 := b_r0.out.at0 b_r0.out.lt_size (Nat.le_refl _)
  have c_r01 := b_r0.out.at1 b_r0.out.lt_size (Nat.le_refl _)
  have c_r02 := b_r0.out.at2 b_r0.out.lt_size (Nat.le_refl _)
  have f_r00 := b_r0.out.free0 b_r0.out.lt_size (Nat.le_refl _)
  have f_r01 := b_r0.out.free1 b_r0.out.lt_size (Nat.le_refl _)
  have f_r02 := b_r0.out.free2 b_r0.out.lt_size (Nat.le_refl _)
  have l_r0 := b_r0.out.lt b_r0.out.lt_size (Nat.le_refl _)
  have c_n0 := b_n.out.at0 b_n.out.lt_size (Nat.le_refl _)
  have c_n1 := b_n.out.at1 b_n.out.lt_size (Nat.le_refl _)
  refine (of_any _ 1 (by omega)).mono ?_
  rintro e w3 ⟨A_d, c_d, rfl, R_d, hb⟩
  replace R_n := hide (Rd.then_ R_n.out hb)
  have U5 : Below V2.heap.size V2 w3 := Below.then_ U4 hb
  replace B := hide (Below.then_ B.out hb)
  replace R_d := hide R_d
  clear hb
  go_wp2_with fail
  refine (bits_any _ _ _ _ _ _ R_d.out).mono ?_
  rintro e w' ⟨rfl, rfl⟩
  go_wp2_with fail
  refine (reduced_any R_n.out hl.out R_d.out hl1.out (Nat.le_refl _) e_q.out).mono ?_
  rintro e w4 ⟨A_q, c_q, A_qd, c_qd, rfl, R_q, R_qd, hb⟩
  replace R_n := hide (Rd.then_ R_n.out hb)
  replace R_d := hide (Rd.then_ R_d.out hb)
  have U6 : Below V2.heap.size V2 w4 := Below.then_ U5 hb
  replace B := hide (Below.then_ B.out hb)
  replace R_q := hide R_q
  replace R_qd := hide R_qd
  clear hb
  go_wp2
  exact bodyPost_ret (v := .tuple #[.agg #[.bool (zneg q.num), .slice A_q (dig (zmag q.num)).length c_q, .slice A_qd (dig q.den).length c_qd], .int .i64 0]) (by simp [results, Try.results43, go_sem, c_r00 _ U6, c_r01 _ U6, c_r02 _ U6]) rfl (RetRV.box B.out (by omega) (c_r00 _ U6) (c_r01 _ U6) (c_r02 _ U6) R_q.out R_qd.out)

set_option maxHeartbeats 4000000 in
theorem pparse_den {w : World} {s b a : ByteArray}  {q : Rat} {z k : Int} (hc : ∀ w, Calls Try.prog 81 #[.string s, .string ⟨#[47]⟩] w (RetB w (.tuple #[.string b, .string a, .bool true]))) (hn : ∀ w, Calls Try.prog 82 #[.string b] w (RetIV w z k)) {m : Nat} {k' : Int} (hk : k = 0) (hd : ∀ w, Calls Try.prog 83 #[.string a] w (RetPV w m k')) (hk' : k' ≠ 0) (hq : (0 : Rat) = q) :
    Calls Try.prog 43 #[.string s] w (RetRV w q k') := by
  replace hc := hide hc
  replace hn := hide hn
  subst hk
  have h1 : (k' != 0) = true := by simpa using hk'
  replace hq := hide hq
  replace hd := hide hd
  clear hk'
  obtain ⟨W, hW⟩ : ∃ W, W = (w.alloc (.cells #[.bool false, .slice none 0 0, .slice none 0 0] 27)) := ⟨_, rfl⟩
  have b_r0 : Box3 W (w.heap.size) (.bool false) (.slice none 0 0) (.slice none 0 0) := by rw [hW]; exact (Box3.new w _ _ _ rfl)
  have hwW : Below w.heap.size w W := by rw [hW]; exact ((Below.refl _ _).alloc (Nat.le_refl _) _)
  have B := hide hwW
  clear hwW
  have U0 : Below W.heap.size W W := Below.refl _ _
  have c_r00 := b_r0.at0 b_r0.lt_size (Nat.le_refl _)
  have c_r01 := b_r0.at1 b_r0.lt_size (Nat.le_refl _)
  have c_r02 := b_r0.at2 b_r0.lt_size (Nat.le_refl _)
  have f_r00 := b_r0.free0 b_r0.lt_size (Nat.le_refl _)
  have f_r01 := b_r0.free1 b_r0.lt_size (Nat.le_refl _)
  have f_r02 := b_r0.free2 b_r0.lt_size (Nat.le_refl _)
  have l_r0 := b_r0.lt b_r0.lt_size (Nat.le_refl _)
  replace b_r0 := hide b_r0
  go_enter Try.func43, Try.ntmps43
  go_wp2_with fail
  rw [← hW]
  clear hW
  refine (hc.out _).mono ?_
  rintro e w1 ⟨rfl, hb⟩
  have U1 : Below W.heap.size W w1 := Below.then_ U0 hb
  replace B := hide (Below.then_ B.out hb)
  clear hb
  go_wp2_with fail
  refine (hn.out _).mono ?_
  rintro e w2 ⟨A_n, c_n, rfl, R_n, hb⟩
  have U2 : Below W.heap.size W w2 := Below.then_ U1 hb
  replace B := hide (Below.then_ B.out hb)
  replace R_n := hide R_n
  clear hb
  have hbx : Below w2.heap.size w2 (w2.alloc (.cells #[.bool (zneg z), .slice A_n (dig (zmag z)).length c_n] 25)) := ((Below.refl _ _).alloc (Nat.le_refl _) _)
  have Ux := Below.then_ U2 hbx
  go_wp2_with fail
  obtain ⟨V2, hV⟩ : ∃ V, V = (w2.alloc (.cells #[.bool (zneg z), .slice A_n (dig (zmag z)).length c_n] 25)) := ⟨_, rfl⟩
  obtain ⟨g_n, hg_n⟩ : ∃ g, g = w2.heap.size := ⟨_, rfl⟩
  rw [← hV]
  rw [← hV] at hbx Ux
  rw [← hg_n]
  have b_n : Box V2 g_n (.bool (zneg z)) (.slice A_n (dig (zmag z)).length c_n) := by rw [hV]; exact (Box.new _ _ _ hg_n)
  clear hV
  have ne_n_r0 : g_n ≠ w.heap.size := by have := l_r0 _ U2; omega
  replace ne_n_r0 := hide ne_n_r0
  have ne_r0_n := hide (Ne.symm ne_n_r0.out)
  have ge_n : w.heap.size ≤ g_n := by have := B.out.size; omega
  replace ge_n := hide ge_n
  clear hg_n
  replace R_n := hide (Rd.then_ R_n.out hbx)
  have U3 : Below W.heap.size W V2 := Below.then_ U2 hbx
  replace B := hide (Below.then_ B.out hbx)
  clear hbx
  replace b_r0 := hide (Box3.keep b_r0.out U3)
  clear c_r00 c_r01 c_r02 f_r00 f_r01 f_r02 l_r0
  replace b_n := hide b_n
  have U4 : Below V2.heap.size V2 V2 := Below.refl _ _
  have c_r00 := b_r0.out.at0 b_r0.out.lt_size (Nat.le_refl _)
  have c_r01 := b_r0.out.at1 b_r0.out.lt_size (Nat.le_refl _)
  have c_r02 := b_r0.out.at2 b_r0.out.lt_size (Nat.le_refl _)
  have f_r00 := b_r0.out.free0 b_r0.out.lt_size (Nat.le_refl _)
  have f_r01 := b_r0.out.free1 b_r0.out.lt_size (Nat.le_refl _)
  have f_r02 := b_r0.out.free2 b_r0.out.lt_size (Nat.le_refl _)
  have l_r0 := b_r0.out.lt b_r0.out.lt_size (Nat.le_refl _)
  have c_n0 := b_n.out.at0 b_n.out.lt_size (Nat.le_refl _)
  have c_n1 := b_n.out.at1 b_n.out.lt_size (Nat.le_refl _)
  refine (of_any _ 1 (by omega)).mono ?_
  rintro e w3 ⟨A_o, c_o, rfl, R_o, hb⟩
  replace R_n := hide (Rd.then_ R_n.out hb)
  have U5 : Below V2.heap.size V2 w3 := Below.then_ U4 hb
  replace B := hide (Below.then_ B.out hb)
  replace R_o := hide R_o
  clear hb
  go_wp2_with fail
  refine (hd.out _).mono ?_
  rintro e w4 ⟨A_d, c_d, rfl, R_d, hb⟩
  replace R_n := hide (Rd.then_ R_n.out hb)
  replace R_o := hide (Rd.then_ R_o.out hb)
  have U6 : Below V2.heap.size V2 w4 := Below.then_ U5 hb
  replace B := hide (Below.then_ B.out hb)
  replace R_d := hide R_d
  clear hb
  go_wp2_with fail
  refine (zero_any hq.out).mono ?_
  rintro e w5 ⟨A_q, c_q, A_qd, c_qd, rfl, R_q, R_qd, hb⟩
  replace R_n := hide (Rd.then_ R_n.out hb)
  replace R_o := hide (Rd.then_ R_o.out hb)
  replace R_d := hide (Rd.then_ R_d.out hb)
  have U7 : Below V2.heap.size V2 w5 := Below.then_ U6 hb
  replace B := hide (Below.then_ B.out hb)
  replace R_q := hide R_q
  replace R_qd := hide R_qd
  clear hb
  go_wp2
  exact bodyPost_ret (v := .tuple #[.agg #[.bool (zneg q.num), .slice A_q (dig (zmag q.num)).length c_q, .slice A_qd (dig q.den).length c_qd], .int .i64 k']) (by simp [results, Try.results43, go_sem, c_r00 _ U7, c_r01 _ U7, c_r02 _ U7]) rfl (RetRV.box B.out (by omega) (c_r00 _ U7) (c_r01 _ U7) (c_r02 _ U7) R_q.out R_qd.out)

set_option maxHeartbeats 4000000 in
theorem pparse_zero {w : World} {s b a : ByteArray}  {q : Rat} {z k : Int} (hc : ∀ w, Calls Try.prog 81 #[.string s, .string ⟨#[47]⟩] w (RetB w (.tuple #[.string b, .string a, .bool true]))) (hn : ∀ w, Calls Try.prog 82 #[.string b] w (RetIV w z k)) {m : Nat} {k' : Int} (hk : k = 0) (hd : ∀ w, Calls Try.prog 83 #[.string a] w (RetPV w m k')) (hk' : k' = 0) (hm : m = 0) (hq : (0 : Rat) = q) :
    Calls Try.prog 43 #[.string s] w (RetRV w q 2) := by
  replace hc := hide hc
  replace hn := hide hn
  subst hk hk' hm
  have h1 : bl (val (dig 0)) = 0 := by rw [val_dig, bl_zero]
  replace h1 := hide h1
  replace hq := hide hq
  replace hd := hide hd
  obtain ⟨W, hW⟩ : ∃ W, W = (w.alloc (.cells #[.bool false, .slice none 0 0, .slice none 0 0] 27)) := ⟨_, rfl⟩
  have b_r0 : Box3 W (w.heap.size) (.bool false) (.slice none 0 0) (.slice none 0 0) := by rw [hW]; exact (Box3.new w _ _ _ rfl)
  have hwW : Below w.heap.size w W := by rw [hW]; exact ((Below.refl _ _).alloc (Nat.le_refl _) _)
  have B := hide hwW
  clear hwW
  have U0 : Below W.heap.size W W := Below.refl _ _
  have c_r00 := b_r0.at0 b_r0.lt_size (Nat.le_refl _)
  have c_r01 := b_r0.at1 b_r0.lt_size (Nat.le_refl _)
  have c_r02 := b_r0.at2 b_r0.lt_size (Nat.le_refl _)
  have f_r00 := b_r0.free0 b_r0.lt_size (Nat.le_refl _)
  have f_r01 := b_r0.free1 b_r0.lt_size (Nat.le_refl _)
  have f_r02 := b_r0.free2 b_r0.lt_size (Nat.le_refl _)
  have l_r0 := b_r0.lt b_r0.lt_size (Nat.le_refl _)
  replace b_r0 := hide b_r0
  go_enter Try.func43, Try.ntmps43
  go_wp2_with fail
  rw [← hW]
  clear hW
  refine (hc.out _).mono ?_
  rintro e w1 ⟨rfl, hb⟩
  have U1 : Below W.heap.size W w1 := Below.then_ U0 hb
  replace B := hide (Below.then_ B.out hb)
  clear hb
  go_wp2_with fail
  refine (hn.out _).mono ?_
  rintro e w2 ⟨A_n, c_n, rfl, R_n, hb⟩
  have U2 : Below W.heap.size W w2 := Below.then_ U1 hb
  replace B := hide (Below.then_ B.out hb)
  replace R_n := hide R_n
  clear hb
  have hbx : Below w2.heap.size w2 (w2.alloc (.cells #[.bool (zneg z), .slice A_n (dig (zmag z)).length c_n] 25)) := ((Below.refl _ _).alloc (Nat.le_refl _) _)
  have Ux := Below.then_ U2 hbx
  go_wp2_with fail
  obtain ⟨V2, hV⟩ : ∃ V, V = (w2.alloc (.cells #[.bool (zneg z), .slice A_n (dig (zmag z)).length c_n] 25)) := ⟨_, rfl⟩
  obtain ⟨g_n, hg_n⟩ : ∃ g, g = w2.heap.size := ⟨_, rfl⟩
  rw [← hV]
  rw [← hV] at hbx Ux
  rw [← hg_n]
  have b_n : Box V2 g_n (.bool (zneg z)) (.slice A_n (dig (zmag z)).length c_n) := by rw [hV]; exact (Box.new _ _ _ hg_n)
  clear hV
  have ne_n_r0 : g_n ≠ w.heap.size := by have := l_r0 _ U2; omega
  replace ne_n_r0 := hide ne_n_r0
  have ne_r0_n := hide (Ne.symm ne_n_r0.out)
  have ge_n : w.heap.size ≤ g_n := by have := B.out.size; omega
  replace ge_n := hide ge_n
  clear hg_n
  replace R_n := hide (Rd.then_ R_n.out hbx)
  have U3 : Below W.heap.size W V2 := Below.then_ U2 hbx
  replace B := hide (Below.then_ B.out hbx)
  clear hbx
  replace b_r0 := hide (Box3.keep b_r0.out U3)
  clear c_r00 c_r01 c_r02 f_r00 f_r01 f_r02 l_r0
  replace b_n := hide b_n
  have U4 : Below V2.heap.size V2 V2 := Below.refl _ _
  have c_r00 := b_r0.out.at0 b_r0.out.lt_size (Nat.le_refl _)
  have c_r01 := b_r0.out.at1 b_r0.out.lt_size (Nat.le_refl _)
  have c_r02 := b_r0.out.at2 b_r0.out.lt_size (Nat.le_refl _)
  have f_r00 := b_r0.out.free0 b_r0.out.lt_size (Nat.le_refl _)
  have f_r01 := b_r0.out.free1 b_r0.out.lt_size (Nat.le_refl _)
  have f_r02 := b_r0.out.free2 b_r0.out.lt_size (Nat.le_refl _)
  have l_r0 := b_r0.out.lt b_r0.out.lt_size (Nat.le_refl _)
  have c_n0 := b_n.out.at0 b_n.out.lt_size (Nat.le_refl _)
  have c_n1 := b_n.out.at1 b_n.out.lt_size (Nat.le_refl _)
  refine (of_any _ 1 (by omega)).mono ?_
  rintro e w3 ⟨A_o, c_o, rfl, R_o, hb⟩
  replace R_n := hide (Rd.then_ R_n.out hb)
  have U5 : Below V2.heap.size V2 w3 := Below.then_ U4 hb
  replace B := hide (Below.then_ B.out hb)
  replace R_o := hide R_o
  clear hb
  go_wp2_with fail
  refine (hd.out _).mono ?_
  rintro e w4 ⟨A_d, c_d, rfl, R_d, hb⟩
  replace R_n := hide (Rd.then_ R_n.out hb)
  replace R_o := hide (Rd.then_ R_o.out hb)
  have U6 : Below V2.heap.size V2 w4 := Below.then_ U5 hb
  replace B := hide (Below.then_ B.out hb)
  replace R_d := hide R_d
  clear hb
  go_wp2_with fail
  refine (bits_any _ _ _ _ _ _ R_d.out).mono ?_
  rw [h1.out]
  rintro e w' ⟨rfl, rfl⟩
  go_wp2_with fail
  refine (zero_any hq.out).mono ?_
  rintro e w5 ⟨A_q, c_q, A_qd, c_qd, rfl, R_q, R_qd, hb⟩
  replace R_n := hide (Rd.then_ R_n.out hb)
  replace R_o := hide (Rd.then_ R_o.out hb)
  replace R_d := hide (Rd.then_ R_d.out hb)
  have U7 : Below V2.heap.size V2 w5 := Below.then_ U6 hb
  replace B := hide (Below.then_ B.out hb)
  replace R_q := hide R_q
  replace R_qd := hide R_qd
  clear hb
  go_wp2
  exact bodyPost_ret (v := .tuple #[.agg #[.bool (zneg q.num), .slice A_q (dig (zmag q.num)).length c_q, .slice A_qd (dig q.den).length c_qd], .int .i64 2]) (by simp [results, Try.results43, go_sem, c_r00 _ U7, c_r01 _ U7, c_r02 _ U7]) rfl (RetRV.box B.out (by omega) (c_r00 _ U7) (c_r01 _ U7) (c_r02 _ U7) R_q.out R_qd.out)

set_option maxHeartbeats 4000000 in
theorem pparse_both {w : World} {s b a : ByteArray}  {q : Rat} {z k : Int} (hc : ∀ w, Calls Try.prog 81 #[.string s, .string ⟨#[47]⟩] w (RetB w (.tuple #[.string b, .string a, .bool true]))) (hn : ∀ w, Calls Try.prog 82 #[.string b] w (RetIV w z k)) {m : Nat} {k' : Int} (hk : k = 0) (hd : ∀ w, Calls Try.prog 83 #[.string a] w (RetPV w m k')) (hk' : k' = 0) (hm : m ≠ 0) (hq : mkRat z m = q) (hl : (dig (zmag z)).length ≤ 10000000000) (hl1 : (dig m).length ≤ 10000000000) :
    Calls Try.prog 43 #[.string s] w (RetRV w q 0) := by
  replace hc := hide hc
  replace hn := hide hn
  subst hk hk'
  have h1 : ((bl (val (dig m)) : Int) == 0) = false := ofne (by rw [val_dig]; exact hm)
  replace hd := hide hd
  replace hl := hide hl
  replace hl1 := hide hl1
  have e_q : qv (zneg z) (val (dig (zmag z))) (val (dig m)) = q := by rw [qvz]; exact hq
  replace e_q := hide e_q
  clear hq hm
  obtain ⟨W, hW⟩ : ∃ W, W = (w.alloc (.cells #[.bool false, .slice none 0 0, .slice none 0 0] 27)) := ⟨_, rfl⟩
  have b_r0 : Box3 W (w.heap.size) (.bool false) (.slice none 0 0) (.slice none 0 0) := by rw [hW]; exact (Box3.new w _ _ _ rfl)
  have hwW : Below w.heap.size w W := by rw [hW]; exact ((Below.refl _ _).alloc (Nat.le_refl _) _)
  have B := hide hwW
  clear hwW
  have U0 : Below W.heap.size W W := Below.refl _ _
  have c_r00 := b_r0.at0 b_r0.lt_size (Nat.le_refl _)
  have c_r01 := b_r0.at1 b_r0.lt_size (Nat.le_refl _)
  have c_r02 := b_r0.at2 b_r0.lt_size (Nat.le_refl _)
  have f_r00 := b_r0.free0 b_r0.lt_size (Nat.le_refl _)
  have f_r01 := b_r0.free1 b_r0.lt_size (Nat.le_refl _)
  have f_r02 := b_r0.free2 b_r0.lt_size (Nat.le_refl _)
  have l_r0 := b_r0.lt b_r0.lt_size (Nat.le_refl _)
  replace b_r0 := hide b_r0
  go_enter Try.func43, Try.ntmps43
  go_wp2_with fail
  rw [← hW]
  clear hW
  refine (hc.out _).mono ?_
  rintro e w1 ⟨rfl, hb⟩
  have U1 : Below W.heap.size W w1 := Below.then_ U0 hb
  replace B := hide (Below.then_ B.out hb)
  clear hb
  go_wp2_with fail
  refine (hn.out _).mono ?_
  rintro e w2 ⟨A_n, c_n, rfl, R_n, hb⟩
  have U2 : Below W.heap.size W w2 := Below.then_ U1 hb
  replace B := hide (Below.then_ B.out hb)
  replace R_n := hide R_n
  clear hb
  have hbx : Below w2.heap.size w2 (w2.alloc (.cells #[.bool (zneg z), .slice A_n (dig (zmag z)).length c_n] 25)) := ((Below.refl _ _).alloc (Nat.le_refl _) _)
  have Ux := Below.then_ U2 hbx
  go_wp2_with fail
  obtain ⟨V2, hV⟩ : ∃ V, V = (w2.alloc (.cells #[.bool (zneg z), .slice A_n (dig (zmag z)).length c_n] 25)) := ⟨_, rfl⟩
  obtain ⟨g_n, hg_n⟩ : ∃ g, g = w2.heap.size := ⟨_, rfl⟩
  rw [← hV]
  rw [← hV] at hbx Ux
  rw [← hg_n]
  have b_n : Box V2 g_n (.bool (zneg z)) (.slice A_n (dig (zmag z)).length c_n) := by rw [hV]; exact (Box.new _ _ _ hg_n)
  clear hV
  have ne_n_r0 : g_n ≠ w.heap.size := by have := l_r0 _ U2; omega
  replace ne_n_r0 := hide ne_n_r0
  have ne_r0_n := hide (Ne.symm ne_n_r0.out)
  have ge_n : w.heap.size ≤ g_n := by have := B.out.size; omega
  replace ge_n := hide ge_n
  clear hg_n
  replace R_n := hide (Rd.then_ R_n.out hbx)
  have U3 : Below W.heap.size W V2 := Below.then_ U2 hbx
  replace B := hide (Below.then_ B.out hbx)
  clear hbx
  replace b_r0 := hide (Box3.keep b_r0.out U3)
  clear c_r00 c_r01 c_r02 f_r00 f_r01 f_r02 l_r0
  replace b_n := hide b_n
  have U4 : Below V2.heap.size V2 V2 := Below.refl _ _
  have c_r00 := b_r0.out.at0 b_r0.out.lt_size (Nat.le_refl _)
  have c_r01 := b_r0.out.at1 b_r0.out.lt_size (Nat.le_refl _)
  have c_r02 := b_r0.out.at2 b_r0.out.lt_size (Nat.le_refl _)
  have f_r00 := b_r0.out.free0 b_r0.out.lt_size (Nat.le_refl _)
  have f_r01 := b_r0.out.free1 b_r0.out.lt_size (Nat.le_refl _)
  have f_r02 := b_r0.out.free2 b_r0.out.lt_size (Nat.le_refl _)
  have l_r0 := b_r0.out.lt b_r0.out.lt_size (Nat.le_refl _)
  have c_n0 := b_n.out.at0 b_n.out.lt_size (Nat.le_refl _)
  have c_n1 := b_n.out.at1 b_n.out.lt_size (Nat.le_refl _)
  refine (of_any _ 1 (by omega)).mono ?_
  rintro e w3 ⟨A_o, c_o, rfl, R_o, hb⟩
  replace R_n := hide (Rd.then_ R_n.out hb)
  have U5 : Below V2.heap.size V2 w3 := Below.then_ U4 hb
  replace B := hide (Below.then_ B.out hb)
  replace R_o := hide R_o
  clear hb
  go_wp2_with fail
  refine (hd.out _).mono ?_
  rintro e w4 ⟨A_d, c_d, rfl, R_d, hb⟩
  replace R_n := hide (Rd.then_ R_n.out hb)
  replace R_o := hide (Rd.then_ R_o.out hb)
  have U6 : Below V2.heap.size V2 w4 := Below.then_ U5 hb
  replace B := hide (Below.then_ B.out hb)
  replace R_d := hide R_d
  clear hb
  go_wp2_with fail
  refine (bits_any _ _ _ _ _ _ R_d.out).mono ?_
  rintro e w' ⟨rfl, rfl⟩
  go_wp2_with fail
  refine (reduced_any R_n.out hl.out R_d.out hl1.out (Nat.le_refl _) e_q.out).mono ?_
  rintro e w5 ⟨A_q, c_q, A_qd, c_qd, rfl, R_q, R_qd, hb⟩
  replace R_n := hide (Rd.then_ R_n.out hb)
  replace R_o := hide (Rd.then_ R_o.out hb)
  replace R_d := hide (Rd.then_ R_d.out hb)
  have U7 : Below V2.heap.size V2 w5 := Below.then_ U6 hb
  replace B := hide (Below.then_ B.out hb)
  replace R_q := hide R_q
  replace R_qd := hide R_qd
  clear hb
  go_wp2
  exact bodyPost_ret (v := .tuple #[.agg #[.bool (zneg q.num), .slice A_q (dig (zmag q.num)).length c_q, .slice A_qd (dig q.den).length c_qd], .int .i64 0]) (by simp [results, Try.results43, go_sem, c_r00 _ U7, c_r01 _ U7, c_r02 _ U7]) rfl (RetRV.box B.out (by omega) (c_r00 _ U7) (c_r01 _ U7) (c_r02 _ U7) R_q.out R_qd.out)

end Go.Proofs.Ytieopcchchebgaa
