/-
  Parse of the reference.
-/
import Derived.Test.YtieopcchchebgaaRRat1
import Derived.Test.YtieopcchchebgaaParse3
namespace Go.Proofs.Ytieopcchchebgaa
open Go.RowKit


theorem rof1 (w : World) : Calls Try.prog 71 #[.int .u64 1] w (RetNat w 1) := rof_any w 1 (by omega)
theorem bt_at {s : ByteArray} {k : Nat} (hk : k < s.size) : ((s[k]'hk).toNat : Int) = (bt s k : Int) := by unfold bt; rw [dif_pos hk]

set_option maxHeartbeats 4000000 in
theorem rparse3_int_err {w : World} {s : ByteArray}  {q : Rat} (hs : s.size ≤ 4611686018427387904) {z k : Int} (hn : ∀ w, Calls Try.prog 85 #[.string s] w (RetIV w z k)) (hsl : NoSlash s) (hk0 : k ≠ 0) (hq : (0 : Rat) = q) :
    Calls Try.prog 44 #[.string s] w (RetRV w q k) := by
  replace hn := hide hn
  have h1 : (k != 0) = true := by simpa using hk0
  replace hq := hide hq
  clear hk0
  have hsl' := hide hsl
  clear hsl
  obtain ⟨W, hW⟩ : ∃ W, W = (w.alloc (.cells #[.bool false, .slice none 0 0, .slice none 0 0] 27)) := ⟨_, rfl⟩
  have b_r0 : Box3 W (w.heap.size) (.bool false) (.slice none 0 0) (.slice none 0 0) := by rw [hW]; exact (Box3.new w _ _ _ rfl)
  have hwW : Below w.heap.size w W := by rw [hW]; exact ((Below.refl _ _).alloc (Nat.le_refl _) _)
  have B := hide hwW
  clear hwW
  have U0 : Below W.heap.size W W := Below.refl _ _
  have c_r00 := b_r0.at0 b_r0.lt_size (Nat.le_refl _)
  have c_r01 := b_r0.at1 b_r0.lt_size (Nat.le_refl _)
  have c_r02 := b_r0.at2 b_r0.lt_size (Nat.le_refl _)
  have f_r00 := b_r0.free0 b_r0.lt_size (Nat.le_refl _)
  have f_r01 := b_r0.free1 b_r0.lt_size (Nat.le_refl _)
  have f_r02 := b_r0.free2 b_r0.lt_size (Nat.le_refl _)
  have l_r0 := b_r0.lt b_r0.lt_size (Nat.le_refl _)
  replace b_r0 := hide b_r0
  go_enter Try.func44, Try.ntmps44
  go_wp2
  rw [← hW]
  clear hW
  go_loop [4, 5] (fun a i => ∃ k : Nat, k ≤ s.size ∧ i = .int .i64 k ∧ (a = .int .i64 (-1))) (fun _ i => s.size - (intOf i).toNat)
  case atStart => exact ⟨0, Nat.zero_le _, rfl, rfl⟩
  case round =>
    obtain ⟨k, hk, rfl, rfl⟩ := hrel
    by_cases hks : k < s.size
    · have hbt := bt_at hks
      have hb0 : ((bt s k : Int) == 47) = false := by have := hsl'.out k hks; simp; omega
      go_wp2
      go_round
      case rel => exact ⟨k + 1, by omega, by go_num, rfl⟩
      case measure => simp [intOf]; omega
    · skip
      obtain rfl : k = s.size := by omega
      go_wp2_with fail
      refine (hn.out _).mono ?_
      rintro e w1 ⟨A_n, c_n, rfl, R_n, hb⟩
      have U1 : Below W.heap.size W w1 := Below.then_ U0 hb
      replace B := hide (Below.then_ B.out hb)
      replace R_n := hide R_n
      clear hb
      have hbx : Below w1.heap.size w1 (w1.alloc (.cells #[.bool (zneg z), .slice A_n (dig (zmag z)).length c_n] 25)) := ((Below.refl _ _).alloc (Nat.le_refl _) _)
      have Ux := Below.then_ U1 hbx
      go_wp2_with fail
      obtain ⟨V1, hV⟩ : ∃ V, V = (w1.alloc (.cells #[.bool (zneg z), .slice A_n (dig (zmag z)).length c_n] 25)) := ⟨_, rfl⟩
      obtain ⟨g_n, hg_n⟩ : ∃ g, g = w1.heap.size := ⟨_, rfl⟩
      rw [← hV]
      rw [← hV] at hbx Ux
      rw [← hg_n]
      have b_n : Box V1 g_n (.bool (zneg z)) (.slice A_n (dig (zmag z)).length c_n) := by rw [hV]; exact (Box.new _ _ _ hg_n)
      clear hV
      have ne_n_r0 : g_n ≠ w.heap.size := by have := l_r0 _ U1; omega
      replace ne_n_r0 := hide ne_n_r0
      have ne_r0_n := hide (Ne.symm ne_n_r0.out)
      have ge_n : w.heap.size ≤ g_n := by have := B.out.size; omega
      replace ge_n := hide ge_n
      clear hg_n
      replace R_n := hide (Rd.then_ R_n.out hbx)
      have U2 : Below W.heap.size W V1 := Below.then_ U1 hbx
      replace B := hide (Below.then_ B.out hbx)
      clear hbx
      replace b_r0 := hide (Box3.keep b_r0.out U2)
      clear c_r00 c_r01 c_r02 f_r00 f_r01 f_r02 l_r0
      replace b_n := hide b_n
      have U3 : Below V1.heap.size V1 V1 := Below.refl _ _
      have c_r00 := b_r0.out.at0 b_r0.out.lt_size (Nat.le_refl _)
      have c_r01 := b_r0.out.at1 b_r0.out.lt_size (Nat.le_refl _)
      have c_r02 := b_r0.out.at2 b_r0.out.lt_size (Nat.le_refl _)
      have f_r00 := b_r0.out.free0 b_r0.out.lt_size (Nat.le_refl _)
      have f_r01 := b_r0.out.free1 b_r0.out.lt_size (Nat.le_refl _)
      have f_r02 := b_r0.out.free2 b_r0.out.lt_size (Nat.le_refl _)
      have l_r0 := b_r0.out.lt b_r0.out.lt_size (Nat.le_refl _)
      have c_n0 := b_n.out.at0 b_n.out.lt_size (Nat.le_refl _)
      have c_n1 := b_n.out.at1 b_n.out.lt_size (Nat.le_refl _)
      refine (rzero_any hq.out).mono ?_
      rintro e w2 ⟨A_q, c_q, A_qd, c_qd, rfl, R_q, R_qd, hb⟩
      replace R_n := hide (Rd.then_ R_n.out hb)
      have U4 : Below V1.heap.size V1 w2 := Below.then_ U3 hb
      replace B := hide (Below.then_ B.out hb)
      replace R_q := hide R_q
      replace R_qd := hide R_qd
      clear hb
      go_wp2
      exact bodyPost_ret (v := .tuple #[.agg #[.bool (zneg q.num), .slice A_q (dig (zmag q.num)).length c_q, .slice A_qd (dig q.den).length c_qd], .int .i64 k]) (by simp [results, Try.results44, go_sem, c_r00 _ U4, c_r01 _ U4, c_r02 _ U4]) rfl (RetRV.box B.out (by omega) (c_r00 _ U4) (c_r01 _ U4) (c_r02 _ U4) R_q.out R_qd.out)

set_option maxHeartbeats 4000000 in
theorem rparse3_int {w : World} {s : ByteArray}  {q : Rat} (hs : s.size ≤ 4611686018427387904) {z k : Int} (hn : ∀ w, Calls Try.prog 85 #[.string s] w (RetIV w z k)) (hsl : NoSlash s) (hk0 : k = 0) (hq : mkRat z 1 = q) (hl : (dig (zmag z)).length ≤ 10000000000) :
    Calls Try.prog 44 #[.string s] w (RetRV w q k) := by
  replace hn := hide hn
  subst hk0
  have e_q : qv (zneg z) (val (dig (zmag z))) (val (dig 1)) = q := by rw [qvz]; exact hq
  replace e_q := hide e_q
  clear hq
  replace hl := hide hl
  have hl1 : (dig 1).length ≤ 10000000000 := by rw [dig_one]; exact (by omega : 1 ≤ 10000000000)
  replace hl1 := hide hl1
  have hd1 : val (dig 1) ≠ 0 := by rw [val_dig]; omega
  replace hd1 := hide hd1
  have hsl' := hide hsl
  clear hsl
  obtain ⟨W, hW⟩ : ∃ W, W = (w.alloc (.cells #[.bool false, .slice none 0 0, .slice none 0 0] 27)) := ⟨_, rfl⟩
  have b_r0 : Box3 W (w.heap.size) (.bool false) (.slice none 0 0) (.slice none 0 0) := by rw [hW]; exact (Box3.new w _ _ _ rfl)
  have hwW : Below w.heap.size w W := by rw [hW]; exact ((Below.refl _ _).alloc (Nat.le_refl _) _)
  have B := hide hwW
  clear hwW
  have U0 : Below W.heap.size W W := Below.refl _ _
  have c_r00 := b_r0.at0 b_r0.lt_size (Nat.le_refl _)
  have c_r01 := b_r0.at1 b_r0.lt_size (Nat.le_refl _)
  have c_r02 := b_r0.at2 b_r0.lt_size (Nat.le_refl _)
  have f_r00 := b_r0.free0 b_r0.lt_size (Nat.le_refl _)
  have f_r01 := b_r0.free1 b_r0.lt_size (Nat.le_refl _)
  have f_r02 := b_r0.free2 b_r0.lt_size (Nat.le_refl _)
  have l_r0 := b_r0.lt b_r0.lt_size (Nat.le_refl _)
  replace b_r0 := hide b_r0
  go_enter Try.func44, Try.ntmps44
  go_wp2
  rw [← hW]
  clear hW
  go_loop [4, 5] (fun a i => ∃ k : Nat, k ≤ s.size ∧ i = .int .i64 k ∧ (a = .int .i64 (-1))) (fun _ i => s.size - (intOf i).toNat)
  case atStart => exact ⟨0, Nat.zero_le _, rfl, rfl⟩
  case round =>
    obtain ⟨k, hk, rfl, rfl⟩ := hrel
    by_cases hks : k < s.size
    · have hbt := bt_at hks
      have hb0 : ((bt s k : Int) == 47) = false := by have := hsl'.out k hks; simp; omega
      go_wp2
      go_round
      case rel => exact ⟨k + 1, by omega, by go_num, rfl⟩
      case measure => simp [intOf]; omega
    · skip
      obtain rfl : k = s.size := by omega
      go_wp2_with fail
      refine (hn.out _).mono ?_
      rintro e w1 ⟨A_n, c_n, rfl, R_n, hb⟩
      have U1 : Below W.heap.size W w1 := Below.then_ U0 hb
      replace B := hide (Below.then_ B.out hb)
      replace R_n := hide R_n
      clear hb
      have hbx : Below w1.heap.size w1 (w1.alloc (.cells #[.bool (zneg z), .slice A_n (dig (zmag z)).length c_n] 25)) := ((Below.refl _ _).alloc (Nat.le_refl _) _)
      have Ux := Below.then_ U1 hbx
      go_wp2_with fail
      obtain ⟨V1, hV⟩ : ∃ V, V = (w1.alloc (.cells #[.bool (zneg z), .slice A_n (dig (zmag z)).length c_n] 25)) := ⟨_, rfl⟩
      obtain ⟨g_n, hg_n⟩ : ∃ g, g = w1.heap.size := ⟨_, rfl⟩
      rw [← hV]
      rw [← hV] at hbx Ux
      rw [← hg_n]
      have b_n : Box V1 g_n (.bool (zneg z)) (.slice A_n (dig (zmag z)).length c_n) := by rw [hV]; exact (Box.new _ _ _ hg_n)
      clear hV
      have ne_n_r0 : g_n ≠ w.heap.size := by have := l_r0 _ U1; omega
      replace ne_n_r0 := hide ne_n_r0
      have ne_r0_n := hide (Ne.symm ne_n_r0.out)
      have ge_n : w.heap.size ≤ g_n := by have := B.out.size; omega
      replace ge_n := hide ge_n
      clear hg_n
      replace R_n := hide (Rd.then_ R_n.out hbx)
      have U2 : Below W.heap.size W V1 := Below.then_ U1 hbx
      replace B := hide (Below.then_ B.out hbx)
      clear hbx
      replace b_r0 := hide (Box3.keep b_r0.out U2)
      clear c_r00 c_r01 c_r02 f_r00 f_r01 f_r02 l_r0
      replace b_n := hide b_n
      have U3 : Below V1.heap.size V1 V1 := Below.refl _ _
      have c_r00 := b_r0.out.at0 b_r0.out.lt_size (Nat.le_refl _)
      have c_r01 := b_r0.out.at1 b_r0.out.lt_size (Nat.le_refl _)
      have c_r02 := b_r0.out.at2 b_r0.out.lt_size (Nat.le_refl _)
      have f_r00 := b_r0.out.free0 b_r0.out.lt_size (Nat.le_refl _)
      have f_r01 := b_r0.out.free1 b_r0.out.lt_size (Nat.le_refl _)
      have f_r02 := b_r0.out.free2 b_r0.out.lt_size (Nat.le_refl _)
      have l_r0 := b_r0.out.lt b_r0.out.lt_size (Nat.le_refl _)
      have c_n0 := b_n.out.at0 b_n.out.lt_size (Nat.le_refl _)
      have c_n1 := b_n.out.at1 b_n.out.lt_size (Nat.le_refl _)
      go_wp2_with fail
      have k_n0 := b_n.out.but0 (g1 := w.heap.size) (g2 := w.heap.size) ne_n_r0.out ne_n_r0.out
      have k_n1 := b_n.out.but1 (g1 := w.heap.size) (g2 := w.heap.size) ne_n_r0.out ne_n_r0.out
      have hd := Below.drw_ V1
      replace R_n := hide (Rd.then_ R_n.out hd)
      have U4 : Below V1.heap.size V1 (V1.drew) := Below.then_ U3 hd
      replace B := hide (Below.then_ B.out hd)
      have K4 : KeptBut (w.heap.size) (w.heap.size) V1.heap.size V1 (V1.drew) := KeptBut.below U4
      clear hd
      have tok1 : True := trivial
      go_region_held3 (fun w' => KeptBut (w.heap.size) (w.heap.size) V1.heap.size V1 w') (first | assumption | (with_reducible exact KeptBut.drw _) | ((repeat (first | (with_reducible refine KeptBut.set0 ?_ _) | (with_reducible refine KeptBut.drew_ ?_))); first | assumption | (with_reducible exact KeptBut.refl _ _ _ _)))
        (first
          | (go_at_call 71; (have _t := tok1; (with_reducible refine (rof1 _).mono ?_); rintro e w2 ⟨A_d, c_d, rfl, R_d, hb⟩; replace R_n := hide (Rd.then_ R_n.out hb); have U5 : Below V1.heap.size V1 w2 := Below.then_ U4 hb; replace B := hide (Below.then_ B.out hb); have K5 : KeptBut (w.heap.size) (w.heap.size) V1.heap.size V1 w2 := KeptBut.below U5; replace R_d := hide R_d; clear hb; have tok2 : True := trivial; clear _t tok1))
          | (go_at_call 57; (have _t := tok2; (with_reducible refine (reduce_any R_n.out hl.out R_d.out hl1.out (Nat.le_refl _) hd1.out e_q.out).mono ?_); rintro e w3 ⟨A_q, c_q, A_qd, c_qd, rfl, R_q, R_qd, hb⟩; replace R_n := hide (Rd.then_ R_n.out hb); replace R_d := hide (Rd.then_ R_d.out hb); have U6 : Below V1.heap.size V1 w3 := Below.then_ U5 hb; replace B := hide (Below.then_ B.out hb); have K6 : KeptBut (w.heap.size) (w.heap.size) V1.heap.size V1 w3 := KeptBut.below U6; replace R_q := hide R_q; replace R_qd := hide R_qd; clear hb; have tok3 : True := trivial; clear _t tok2)))
      clear tok3
      clear k_n0 k_n1
      go_wp2
      exact bodyPost_ret (v := .tuple #[.agg #[.bool (zneg q.num), .slice A_q (dig (zmag q.num)).length c_q, .slice A_qd (dig q.den).length c_qd], .int .i64 0]) (by simp [results, Try.results44, go_sem, c_r00 _ U6, c_r01 _ U6, c_r02 _ U6]) rfl (RetRV.box B.out (by omega) (c_r00 _ U6) (c_r01 _ U6) (c_r02 _ U6) R_q.out R_qd.out)

set_option maxHeartbeats 4000000 in
theorem rparse3_num {w : World} {s : ByteArray}  {q : Rat} (hs : s.size ≤ 4611686018427387904) {z k : Int} {i0 : Nat} (hn : ∀ w, Calls Try.prog 85 #[.string (s.extract 0 i0)] w (RetIV w z k)) (hsl : SlashAt s i0) (hk0 : k ≠ 0) (hq : (0 : Rat) = q) :
    Calls Try.prog 44 #[.string s] w (RetRV w q k) := by
  replace hn := hide hn
  have h1 : (k != 0) = true := by simpa using hk0
  clear hk0
  replace hq := hide hq
  have hsl' := hide hsl
  clear hsl
  obtain ⟨W, hW⟩ : ∃ W, W = (w.alloc (.cells #[.bool false, .slice none 0 0, .slice none 0 0] 27)) := ⟨_, rfl⟩
  have b_r0 : Box3 W (w.heap.size) (.bool false) (.slice none 0 0) (.slice none 0 0) := by rw [hW]; exact (Box3.new w _ _ _ rfl)
  have hwW : Below w.heap.size w W := by rw [hW]; exact ((Below.refl _ _).alloc (Nat.le_refl _) _)
  have B := hide hwW
  clear hwW
  have U0 : Below W.heap.size W W := Below.refl _ _
  have c_r00 := b_r0.at0 b_r0.lt_size (Nat.le_refl _)
  have c_r01 := b_r0.at1 b_r0.lt_size (Nat.le_refl _)
  have c_r02 := b_r0.at2 b_r0.lt_size (Nat.le_refl _)
  have f_r00 := b_r0.free0 b_r0.lt_size (Nat.le_refl _)
  have f_r01 := b_r0.free1 b_r0.lt_size (Nat.le_refl _)
  have f_r02 := b_r0.free2 b_r0.lt_size (Nat.le_refl _)
  have l_r0 := b_r0.lt b_r0.lt_size (Nat.le_refl _)
  replace b_r0 := hide b_r0
  go_enter Try.func44, Try.ntmps44
  go_wp2
  rw [← hW]
  clear hW
  go_loop [4, 5] (fun a i => ∃ k : Nat, k ≤ s.size ∧ i = .int .i64 k ∧ ((a = .int .i64 (-1) ∧ k ≤ i0) ∨ (a = .int .i64 (i0 : Nat) ∧ k = i0 + 1))) (fun _ i => s.size - (intOf i).toNat)
  case atStart => exact ⟨0, Nat.zero_le _, rfl, Or.inl ⟨rfl, Nat.zero_le _⟩⟩
  case round =>
    obtain ⟨k, hk, rfl, ha⟩ := hrel
    have hi0 := hsl'.out.1
    rcases ha with ⟨rfl, hki⟩ | ⟨rfl, rfl⟩
    · have hks : k < s.size := by omega
      have hbt := bt_at hks
      by_cases he : k = i0
      · subst he
        have hb0 : ((bt s k : Int) == 47) = true := by rw [hsl'.out.2.1]; rfl
        clear hki
        go_wp2
        go_round
        case rel => exact ⟨k + 1, by omega, by go_num, Or.inr ⟨rfl, rfl⟩⟩
        case measure => simp [intOf]; omega
      · have hb0 : ((bt s k : Int) == 47) = false := by have := hsl'.out.2.2 k (by omega); simp; omega
        have hlt := hide (show k + 1 ≤ i0 by omega)
        clear hki he
        go_wp2
        go_round
        case rel => exact ⟨k + 1, by omega, by go_num, Or.inl ⟨rfl, hlt.out⟩⟩
        case measure => simp [intOf]; omega
    · skip
      have hi1 : i0 ≤ s.size := by omega
      have hi2 : i0 + 1 ≤ s.size := by omega
      clear hi0 hk
      by_cases hlt : i0 + 1 < s.size
      all_goals
        go_wp2_with fail
        refine (hn.out _).mono ?_
        rintro e w1 ⟨A_n, c_n, rfl, R_n, hb⟩
        have U1 : Below W.heap.size W w1 := Below.then_ U0 hb
        replace B := hide (Below.then_ B.out hb)
        replace R_n := hide R_n
        clear hb
        have hbx : Below w1.heap.size w1 (w1.alloc (.cells #[.bool (zneg z), .slice A_n (dig (zmag z)).length c_n] 25)) := ((Below.refl _ _).alloc (Nat.le_refl _) _)
        have Ux := Below.then_ U1 hbx
        go_wp2_with fail
        obtain ⟨V1, hV⟩ : ∃ V, V = (w1.alloc (.cells #[.bool (zneg z), .slice A_n (dig (zmag z)).length c_n] 25)) := ⟨_, rfl⟩
        obtain ⟨g_n, hg_n⟩ : ∃ g, g = w1.heap.size := ⟨_, rfl⟩
        rw [← hV]
        rw [← hV] at hbx Ux
        rw [← hg_n]
        have b_n : Box V1 g_n (.bool (zneg z)) (.slice A_n (dig (zmag z)).length c_n) := by rw [hV]; exact (Box.new _ _ _ hg_n)
        clear hV
        have ne_n_r0 : g_n ≠ w.heap.size := by have := l_r0 _ U1; omega
        replace ne_n_r0 := hide ne_n_r0
        have ne_r0_n := hide (Ne.symm ne_n_r0.out)
        have ge_n : w.heap.size ≤ g_n := by have := B.out.size; omega
        replace ge_n := hide ge_n
        clear hg_n
        replace R_n := hide (Rd.then_ R_n.out hbx)
        have U2 : Below W.heap.size W V1 := Below.then_ U1 hbx
        replace B := hide (Below.then_ B.out hbx)
        clear hbx
        replace b_r0 := hide (Box3.keep b_r0.out U2)
        clear c_r00 c_r01 c_r02 f_r00 f_r01 f_r02 l_r0
        replace b_n := hide b_n
        have U3 : Below V1.heap.size V1 V1 := Below.refl _ _
        have c_r00 := b_r0.out.at0 b_r0.out.lt_size (Nat.le_refl _)
        have c_r01 := b_r0.out.at1 b_r0.out.lt_size (Nat.le_refl _)
        have c_r02 := b_r0.out.at2 b_r0.out.lt_size (Nat.le_refl _)
        have f_r00 := b_r0.out.free0 b_r0.out.lt_size (Nat.le_refl _)
        have f_r01 := b_r0.out.free1 b_r0.out.lt_size (Nat.le_refl _)
        have f_r02 := b_r0.out.free2 b_r0.out.lt_size (Nat.le_refl _)
        have l_r0 := b_r0.out.lt b_r0.out.lt_size (Nat.le_refl _)
        have c_n0 := b_n.out.at0 b_n.out.lt_size (Nat.le_refl _)
        have c_n1 := b_n.out.at1 b_n.out.lt_size (Nat.le_refl _)
        refine (rzero_any hq.out).mono ?_
        rintro e w2 ⟨A_q, c_q, A_qd, c_qd, rfl, R_q, R_qd, hb⟩
        replace R_n := hide (Rd.then_ R_n.out hb)
        have U4 : Below V1.heap.size V1 w2 := Below.then_ U3 hb
        replace B := hide (Below.then_ B.out hb)
        replace R_q := hide R_q
        replace R_qd := hide R_qd
        clear hb
        go_wp2
        exact bodyPost_ret (v := .tuple #[.agg #[.bool (zneg q.num), .slice A_q (dig (zmag q.num)).length c_q, .slice A_qd (dig q.den).length c_qd], .int .i64 k]) (by simp [results, Try.results44, go_sem, c_r00 _ U4, c_r01 _ U4, c_r02 _ U4]) rfl (RetRV.box B.out (by omega) (c_r00 _ U4) (c_r01 _ U4) (c_r02 _ U4) R_q.out R_qd.out)

set_option maxHeartbeats 4000000 in
theorem rparse3_den {w : World} {s : ByteArray}  {q : Rat} (hs : s.size ≤ 4611686018427387904) {z k : Int} {i0 : Nat} (hn : ∀ w, Calls Try.prog 85 #[.string (s.extract 0 i0)] w (RetIV w z k)) (hsl : SlashAt s i0) {m : Nat} {k' : Int} (hd : ∀ w, Calls Try.prog 86 #[.string (s.extract (i0 + 1) s.size)] w (RetPV w m k')) (hk : k = 0) (hk' : k' ≠ 0) (hq : (0 : Rat) = q) :
    Calls Try.prog 44 #[.string s] w (RetRV w q k') := by
  replace hn := hide hn
  subst hk
  replace hd := hide hd
  have h1 : (k' != 0) = true := by simpa using hk'
  clear hk'
  replace hq := hide hq
  have hsl' := hide hsl
  clear hsl
  obtain ⟨W, hW⟩ : ∃ W, W = (w.alloc (.cells #[.bool false, .slice none 0 0, .slice none 0 0] 27)) := ⟨_, rfl⟩
  have b_r0 : Box3 W (w.heap.size) (.bool false) (.slice none 0 0) (.slice none 0 0) := by rw [hW]; exact (Box3.new w _ _ _ rfl)
  have hwW : Below w.heap.size w W := by rw [hW]; exact ((Below.refl _ _).alloc (Nat.le_refl _) _)
  have B := hide hwW
  clear hwW
  have U0 : Below W.heap.size W W := Below.refl _ _
  have c_r00 := b_r0.at0 b_r0.lt_size (Nat.le_refl _)
  have c_r01 := b_r0.at1 b_r0.lt_size (Nat.le_refl _)
  have c_r02 := b_r0.at2 b_r0.lt_size (Nat.le_refl _)
  have f_r00 := b_r0.free0 b_r0.lt_size (Nat.le_refl _)
  have f_r01 := b_r0.free1 b_r0.lt_size (Nat.le_refl _)
  have f_r02 := b_r0.free2 b_r0.lt_size (Nat.le_refl _)
  have l_r0 := b_r0.lt b_r0.lt_size (Nat.le_refl _)
  replace b_r0 := hide b_r0
  go_enter Try.func44, Try.ntmps44
  go_wp2
  rw [← hW]
  clear hW
  go_loop [4, 5] (fun a i => ∃ k : Nat, k ≤ s.size ∧ i = .int .i64 k ∧ ((a = .int .i64 (-1) ∧ k ≤ i0) ∨ (a = .int .i64 (i0 : Nat) ∧ k = i0 + 1))) (fun _ i => s.size - (intOf i).toNat)
  case atStart => exact ⟨0, Nat.zero_le _, rfl, Or.inl ⟨rfl, Nat.zero_le _⟩⟩
  case round =>
    obtain ⟨k, hk, rfl, ha⟩ := hrel
    have hi0 := hsl'.out.1
    rcases ha with ⟨rfl, hki⟩ | ⟨rfl, rfl⟩
    · have hks : k < s.size := by omega
      have hbt := bt_at hks
      by_cases he : k = i0
      · subst he
        have hb0 : ((bt s k : Int) == 47) = true := by rw [hsl'.out.2.1]; rfl
        clear hki
        go_wp2
        go_round
        case rel => exact ⟨k + 1, by omega, by go_num, Or.inr ⟨rfl, rfl⟩⟩
        case measure => simp [intOf]; omega
      · have hb0 : ((bt s k : Int) == 47) = false := by have := hsl'.out.2.2 k (by omega); simp; omega
        have hlt := hide (show k + 1 ≤ i0 by omega)
        clear hki he
        go_wp2
        go_round
        case rel => exact ⟨k + 1, by omega, by go_num, Or.inl ⟨rfl, hlt.out⟩⟩
        case measure => simp [intOf]; omega
    · skip
      have hi1 : i0 ≤ s.size := by omega
      have hi2 : i0 + 1 ≤ s.size := by omega
      clear hi0 hk
      by_cases hlt : i0 + 1 < s.size
      all_goals
        go_wp2_with fail
        refine (hn.out _).mono ?_
        rintro e w1 ⟨A_n, c_n, rfl, R_n, hb⟩
        have U1 : Below W.heap.size W w1 := Below.then_ U0 hb
        replace B := hide (Below.then_ B.out hb)
        replace R_n := hide R_n
        clear hb
        have hbx : Below w1.heap.size w1 (w1.alloc (.cells #[.bool (zneg z), .slice A_n (dig (zmag z)).length c_n] 25)) := ((Below.refl _ _).alloc (Nat.le_refl _) _)
        have Ux := Below.then_ U1 hbx
        go_wp2_with fail
        obtain ⟨V1, hV⟩ : ∃ V, V = (w1.alloc (.cells #[.bool (zneg z), .slice A_n (dig (zmag z)).length c_n] 25)) := ⟨_, rfl⟩
        obtain ⟨g_n, hg_n⟩ : ∃ g, g = w1.heap.size := ⟨_, rfl⟩
        rw [← hV]
        rw [← hV] at hbx Ux
        rw [← hg_n]
        have b_n : Box V1 g_n (.bool (zneg z)) (.slice A_n (dig (zmag z)).length c_n) := by rw [hV]; exact (Box.new _ _ _ hg_n)
        clear hV
        have ne_n_r0 : g_n ≠ w.heap.size := by have := l_r0 _ U1; omega
        replace ne_n_r0 := hide ne_n_r0
        have ne_r0_n := hide (Ne.symm ne_n_r0.out)
        have ge_n : w.heap.size ≤ g_n := by have := B.out.size; omega
        replace ge_n := hide ge_n
        clear hg_n
        replace R_n := hide (Rd.then_ R_n.out hbx)
        have U2 : Below W.heap.size W V1 := Below.then_ U1 hbx
        replace B := hide (Below.then_ B.out hbx)
        clear hbx
        replace b_r0 := hide (Box3.keep b_r0.out U2)
        clear c_r00 c_r01 c_r02 f_r00 f_r01 f_r02 l_r0
        replace b_n := hide b_n
        have U3 : Below V1.heap.size V1 V1 := Below.refl _ _
        have c_r00 := b_r0.out.at0 b_r0.out.lt_size (Nat.le_refl _)
        have c_r01 := b_r0.out.at1 b_r0.out.lt_size (Nat.le_refl _)
        have c_r02 := b_r0.out.at2 b_r0.out.lt_size (Nat.le_refl _)
        have f_r00 := b_r0.out.free0 b_r0.out.lt_size (Nat.le_refl _)
        have f_r01 := b_r0.out.free1 b_r0.out.lt_size (Nat.le_refl _)
        have f_r02 := b_r0.out.free2 b_r0.out.lt_size (Nat.le_refl _)
        have l_r0 := b_r0.out.lt b_r0.out.lt_size (Nat.le_refl _)
        have c_n0 := b_n.out.at0 b_n.out.lt_size (Nat.le_refl _)
        have c_n1 := b_n.out.at1 b_n.out.lt_size (Nat.le_refl _)
        refine (hd.out _).mono ?_
        rintro e w2 ⟨A_d, c_d, rfl, R_d, hb⟩
        replace R_n := hide (Rd.then_ R_n.out hb)
        have U4 : Below V1.heap.size V1 w2 := Below.then_ U3 hb
        replace B := hide (Below.then_ B.out hb)
        replace R_d := hide R_d
        clear hb
        go_wp2_with fail
        refine (rzero_any hq.out).mono ?_
        rintro e w3 ⟨A_q, c_q, A_qd, c_qd, rfl, R_q, R_qd, hb⟩
        replace R_n := hide (Rd.then_ R_n.out hb)
        replace R_d := hide (Rd.then_ R_d.out hb)
        have U5 : Below V1.heap.size V1 w3 := Below.then_ U4 hb
        replace B := hide (Below.then_ B.out hb)
        replace R_q := hide R_q
        replace R_qd := hide R_qd
        clear hb
        go_wp2
        exact bodyPost_ret (v := .tuple #[.agg #[.bool (zneg q.num), .slice A_q (dig (zmag q.num)).length c_q, .slice A_qd (dig q.den).length c_qd], .int .i64 k']) (by simp [results, Try.results44, go_sem, c_r00 _ U5, c_r01 _ U5, c_r02 _ U5]) rfl (RetRV.box B.out (by omega) (c_r00 _ U5) (c_r01 _ U5) (c_r02 _ U5) R_q.out R_qd.out)

set_option maxHeartbeats 4000000 in
theorem rparse3_zero {w : World} {s : ByteArray}  {q : Rat} (hs : s.size ≤ 4611686018427387904) {z k : Int} {i0 : Nat} (hn : ∀ w, Calls Try.prog 85 #[.string (s.extract 0 i0)] w (RetIV w z k)) (hsl : SlashAt s i0) {m : Nat} {k' : Int} (hd : ∀ w, Calls Try.prog 86 #[.string (s.extract (i0 + 1) s.size)] w (RetPV w m k')) (hk : k = 0) (hk' : k' = 0) (hm : m = 0) (hq : (0 : Rat) = q) :
    Calls Try.prog 44 #[.string s] w (RetRV w q 2) := by
  replace hn := hide hn
  subst hk
  replace hd := hide hd
  subst hk'
  subst hm
  have h1 : bl (val (dig 0)) = 0 := by rw [val_dig, bl_zero]
  replace h1 := hide h1
  replace hq := hide hq
  have hsl' := hide hsl
  clear hsl
  obtain ⟨W, hW⟩ : ∃ W, W = (w.alloc (.cells #[.bool false, .slice none 0 0, .slice none 0 0] 27)) := ⟨_, rfl⟩
  have b_r0 : Box3 W (w.heap.size) (.bool false) (.slice none 0 0) (.slice none 0 0) := by rw [hW]; exact (Box3.new w _ _ _ rfl)
  have hwW : Below w.heap.size w W := by rw [hW]; exact ((Below.refl _ _).alloc (Nat.le_refl _) _)
  have B := hide hwW
  clear hwW
  have U0 : Below W.heap.size W W := Below.refl _ _
  have c_r00 := b_r0.at0 b_r0.lt_size (Nat.le_refl _)
  have c_r01 := b_r0.at1 b_r0.lt_size (Nat.le_refl _)
  have c_r02 := b_r0.at2 b_r0.lt_size (Nat.le_refl _)
  have f_r00 := b_r0.free0 b_r0.lt_size (Nat.le_refl _)
  have f_r01 := b_r0.free1 b_r0.lt_size (Nat.le_refl _)
  have f_r02 := b_r0.free2 b_r0.lt_size (Nat.le_refl _)
  have l_r0 := b_r0.lt b_r0.lt_size (Nat.le_refl _)
  replace b_r0 := hide b_r0
  go_enter Try.func44, Try.ntmps44
  go_wp2
  rw [← hW]
  clear hW
  go_loop [4, 5] (fun a i => ∃ k : Nat, k ≤ s.size ∧ i = .int .i64 k ∧ ((a = .int .i64 (-1) ∧ k ≤ i0) ∨ (a = .int .i64 (i0 : Nat) ∧ k = i0 + 1))) (fun _ i => s.size - (intOf i).toNat)
  case atStart => exact ⟨0, Nat.zero_le _, rfl, Or.inl ⟨rfl, Nat.zero_le _⟩⟩
  case round =>
    obtain ⟨k, hk, rfl, ha⟩ := hrel
    have hi0 := hsl'.out.1
    rcases ha with ⟨rfl, hki⟩ | ⟨rfl, rfl⟩
    · have hks : k < s.size := by omega
      have hbt := bt_at hks
      by_cases he : k = i0
      · subst he
        have hb0 : ((bt s k : Int) == 47) = true := by rw [hsl'.out.2.1]; rfl
        clear hki
        go_wp2
        go_round
        case rel => exact ⟨k + 1, by omega, by go_num, Or.inr ⟨rfl, rfl⟩⟩
        case measure => simp [intOf]; omega
      · have hb0 : ((bt s k : Int) == 47) = false := by have := hsl'.out.2.2 k (by omega); simp; omega
        have hlt := hide (show k + 1 ≤ i0 by omega)
        clear hki he
        go_wp2
        go_round
        case rel => exact ⟨k + 1, by omega, by go_num, Or.inl ⟨rfl, hlt.out⟩⟩
        case measure => simp [intOf]; omega
    · skip
      have hi1 : i0 ≤ s.size := by omega
      have hi2 : i0 + 1 ≤ s.size := by omega
      clear hi0 hk
      by_cases hlt : i0 + 1 < s.size
      all_goals
        go_wp2_with fail
        refine (hn.out _).mono ?_
        rintro e w1 ⟨A_n, c_n, rfl, R_n, hb⟩
        have U1 : Below W.heap.size W w1 := Below.then_ U0 hb
        replace B := hide (Below.then_ B.out hb)
        replace R_n := hide R_n
        clear hb
        have hbx : Below w1.heap.size w1 (w1.alloc (.cells #[.bool (zneg z), .slice A_n (dig (zmag z)).length c_n] 25)) := ((Below.refl _ _).alloc (Nat.le_refl _) _)
        have Ux := Below.then_ U1 hbx
        go_wp2_with fail
        obtain ⟨V1, hV⟩ : ∃ V, V = (w1.alloc (.cells #[.bool (zneg z), .slice A_n (dig (zmag z)).length c_n] 25)) := ⟨_, rfl⟩
        obtain ⟨g_n, hg_n⟩ : ∃ g, g = w1.heap.size := ⟨_, rfl⟩
        rw [← hV]
        rw [← hV] at hbx Ux
        rw [← hg_n]
        have b_n : Box V1 g_n (.bool (zneg z)) (.slice A_n (dig (zmag z)).length c_n) := by rw [hV]; exact (Box.new _ _ _ hg_n)
        clear hV
        have ne_n_r0 : g_n ≠ w.heap.size := by have := l_r0 _ U1; omega
        replace ne_n_r0 := hide ne_n_r0
        have ne_r0_n := hide (Ne.symm ne_n_r0.out)
        have ge_n : w.heap.size ≤ g_n := by have := B.out.size; omega
        replace ge_n := hide ge_n
        clear hg_n
        replace R_n := hide (Rd.then_ R_n.out hbx)
        have U2 : Below W.heap.size W V1 := Below.then_ U1 hbx
        replace B := hide (Below.then_ B.out hbx)
        clear hbx
        replace b_r0 := hide (Box3.keep b_r0.out U2)
        clear c_r00 c_r01 c_r02 f_r00 f_r01 f_r02 l_r0
        replace b_n := hide b_n
        have U3 : Below V1.heap.size V1 V1 := Below.refl _ _
        have c_r00 := b_r0.out.at0 b_r0.out.lt_size (Nat.le_refl _)
        have c_r01 := b_r0.out.at1 b_r0.out.lt_size (Nat.le_refl _)
        have c_r02 := b_r0.out.at2 b_r0.out.lt_size (Nat.le_refl _)
        have f_r00 := b_r0.out.free0 b_r0.out.lt_size (Nat.le_refl _)
        have f_r01 := b_r0.out.free1 b_r0.out.lt_size (Nat.le_refl _)
        have f_r02 := b_r0.out.free2 b_r0.out.lt_size (Nat.le_refl _)
        have l_r0 := b_r0.out.lt b_r0.out.lt_size (Nat.le_refl _)
        have c_n0 := b_n.out.at0 b_n.out.lt_size (Nat.le_refl _)
        have c_n1 := b_n.out.at1 b_n.out.lt_size (Nat.le_refl _)
        refine (hd.out _).mono ?_
        rintro e w2 ⟨A_d, c_d, rfl, R_d, hb⟩
        replace R_n := hide (Rd.then_ R_n.out hb)
        have U4 : Below V1.heap.size V1 w2 := Below.then_ U3 hb
        replace B := hide (Below.then_ B.out hb)
        replace R_d := hide R_d
        clear hb
        go_wp2_with fail
        refine (rbits_any _ _ _ _ _ _ R_d.out (Nat.le_refl _)).mono ?_
        rw [h1.out]
        rintro e w3 ⟨rfl, hb⟩
        replace R_n := hide (Rd.then_ R_n.out hb)
        replace R_d := hide (Rd.then_ R_d.out hb)
        have U5 : Below V1.heap.size V1 w3 := Below.then_ U4 hb
        replace B := hide (Below.then_ B.out hb)
        clear hb
        go_wp2_with fail
        refine (rzero_any hq.out).mono ?_
        rintro e w4 ⟨A_q, c_q, A_qd, c_qd, rfl, R_q, R_qd, hb⟩
        replace R_n := hide (Rd.then_ R_n.out hb)
        replace R_d := hide (Rd.then_ R_d.out hb)
        have U6 : Below V1.heap.size V1 w4 := Below.then_ U5 hb
        replace B := hide (Below.then_ B.out hb)
        replace R_q := hide R_q
        replace R_qd := hide R_qd
        clear hb
        go_wp2
        exact bodyPost_ret (v := .tuple #[.agg #[.bool (zneg q.num), .slice A_q (dig (zmag q.num)).length c_q, .slice A_qd (dig q.den).length c_qd], .int .i64 2]) (by simp [results, Try.results44, go_sem, c_r00 _ U6, c_r01 _ U6, c_r02 _ U6]) rfl (RetRV.box B.out (by omega) (c_r00 _ U6) (c_r01 _ U6) (c_r02 _ U6) R_q.out R_qd.out)

set_option maxHeartbeats 4000000 in
theorem rparse3_both {w : World} {s : ByteArray}  {q : Rat} (hs : s.size ≤ 4611686018427387904) {z k : Int} {i0 : Nat} (hn : ∀ w, Calls Try.prog 85 #[.string (s.extract 0 i0)] w (RetIV w z k)) (hsl : SlashAt s i0) {m : Nat} {k' : Int} (hd : ∀ w, Calls Try.prog 86 #[.string (s.extract (i0 + 1) s.size)] w (RetPV w m k')) (hk : k = 0) (hk' : k' = 0) (hm : m ≠ 0) (hq : mkRat z m = q) (hl : (dig (zmag z)).length ≤ 10000000000) (hl1 : (dig m).length ≤ 10000000000) :
    Calls Try.prog 44 #[.string s] w (RetRV w q 0) := by
  replace hn := hide hn
  subst hk
  replace hd := hide hd
  subst hk'
  have h1 : ((bl (val (dig m)) : Int) == 0) = false := ofne (by rw [val_dig]; exact hm)
  have hd1 : val (dig m) ≠ 0 := by rw [val_dig]; exact hm
  replace hd1 := hide hd1
  have e_q : qv (zneg z) (val (dig (zmag z))) (val (dig m)) = q := by rw [qvz]; exact hq
  replace e_q := hide e_q
  clear hq hm
  replace hl := hide hl
  replace hl1 := hide hl1
  have hsl' := hide hsl
  clear hsl
  obtain ⟨W, hW⟩ : ∃ W, W = (w.alloc (.cells #[.bool false, .slice none 0 0, .slice none 0 0] 27)) := ⟨_, rfl⟩
  have b_r0 : Box3 W (w.heap.size) (.bool false) (.slice none 0 0) (.slice none 0 0) := by rw [hW]; exact (Box3.new w _ _ _ rfl)
  have hwW : Below w.heap.size w W := by rw [hW]; exact ((Below.refl _ _).alloc (Nat.le_refl _) _)
  have B := hide hwW
  clear hwW
  have U0 : Below W.heap.size W W := Below.refl _ _
  have c_r00 := b_r0.at0 b_r0.lt_size (Nat.le_refl _)
  have c_r01 := b_r0.at1 b_r0.lt_size (Nat.le_refl _)
  have c_r02 := b_r0.at2 b_r0.lt_size (Nat.le_refl _)
  have f_r00 := b_r0.free0 b_r0.lt_size (Nat.le_refl _)
  have f_r01 := b_r0.free1 b_r0.lt_size (Nat.le_refl _)
  have f_r02 := b_r0.free2 b_r0.lt_size (Nat.le_refl _)
  have l_r0 := b_r0.lt b_r0.lt_size (Nat.le_refl _)
  replace b_r0 := hide b_r0
  go_enter Try.func44, Try.ntmps44
  go_wp2
  rw [← hW]
  clear hW
  go_loop [4, 5] (fun a i => ∃ k : Nat, k ≤ s.size ∧ i = .int .i64 k ∧ ((a = .int .i64 (-1) ∧ k ≤ i0) ∨ (a = .int .i64 (i0 : Nat) ∧ k = i0 + 1))) (fun _ i => s.size - (intOf i).toNat)
  case atStart => exact ⟨0, Nat.zero_le _, rfl, Or.inl ⟨rfl, Nat.zero_le _⟩⟩
  case round =>
    obtain ⟨k, hk, rfl, ha⟩ := hrel
    have hi0 := hsl'.out.1
    rcases ha with ⟨rfl, hki⟩ | ⟨rfl, rfl⟩
    · have hks : k < s.size := by omega
      have hbt := bt_at hks
      by_cases he : k = i0
      · subst he
        have hb0 : ((bt s k : Int) == 47) = true := by rw [hsl'.out.2.1]; rfl
        clear hki
        go_wp2
        go_round
        case rel => exact ⟨k + 1, by omega, by go_num, Or.inr ⟨rfl, rfl⟩⟩
        case measure => simp [intOf]; omega
      · have hb0 : ((bt s k : Int) == 47) = false := by have := hsl'.out.2.2 k (by omega); simp; omega
        have hlt := hide (show k + 1 ≤ i0 by omega)
        clear hki he
        go_wp2
        go_round
        case rel => exact ⟨k + 1, by omega, by go_num, Or.inl ⟨rfl, hlt.out⟩⟩
        case measure => simp [intOf]; omega
    · skip
      have hi1 : i0 ≤ s.size := by omega
      have hi2 : i0 + 1 ≤ s.size := by omega
      clear hi0 hk
      by_cases hlt : i0 + 1 < s.size
      all_goals
        go_wp2_with fail
        refine (hn.out _).mono ?_
        rintro e w1 ⟨A_n, c_n, rfl, R_n, hb⟩
        have U1 : Below W.heap.size W w1 := Below.then_ U0 hb
        replace B := hide (Below.then_ B.out hb)
        replace R_n := hide R_n
        clear hb
        have hbx : Below w1.heap.size w1 (w1.alloc (.cells #[.bool (zneg z), .slice A_n (dig (zmag z)).length c_n] 25)) := ((Below.refl _ _).alloc (Nat.le_refl _) _)
        have Ux := Below.then_ U1 hbx
        go_wp2_with fail
        obtain ⟨V1, hV⟩ : ∃ V, V = (w1.alloc (.cells #[.bool (zneg z), .slice A_n (dig (zmag z)).length c_n] 25)) := ⟨_, rfl⟩
        obtain ⟨g_n, hg_n⟩ : ∃ g, g = w1.heap.size := ⟨_, rfl⟩
        rw [← hV]
        rw [← hV] at hbx Ux
        rw [← hg_n]
        have b_n : Box V1 g_n (.bool (zneg z)) (.slice A_n (dig (zmag z)).length c_n) := by rw [hV]; exact (Box.new _ _ _ hg_n)
        clear hV
        have ne_n_r0 : g_n ≠ w.heap.size := by have := l_r0 _ U1; omega
        replace ne_n_r0 := hide ne_n_r0
        have ne_r0_n := hide (Ne.symm ne_n_r0.out)
        have ge_n : w.heap.size ≤ g_n := by have := B.out.size; omega
        replace ge_n := hide ge_n
        clear hg_n
        replace R_n := hide (Rd.then_ R_n.out hbx)
        have U2 : Below W.heap.size W V1 := Below.then_ U1 hbx
        replace B := hide (Below.then_ B.out hbx)
        clear hbx
        replace b_r0 := hide (Box3.keep b_r0.out U2)
        clear c_r00 c_r01 c_r02 f_r00 f_r01 f_r02 l_r0
        replace b_n := hide b_n
        have U3 : Below V1.heap.size V1 V1 := Below.refl _ _
        have c_r00 := b_r0.out.at0 b_r0.out.lt_size (Nat.le_refl _)
        have c_r01 := b_r0.out.at1 b_r0.out.lt_size (Nat.le_refl _)
        have c_r02 := b_r0.out.at2 b_r0.out.lt_size (Nat.le_refl _)
        have f_r00 := b_r0.out.free0 b_r0.out.lt_size (Nat.le_refl _)
        have f_r01 := b_r0.out.free1 b_r0.out.lt_size (Nat.le_refl _)
        have f_r02 := b_r0.out.free2 b_r0.out.lt_size (Nat.le_refl _)
        have l_r0 := b_r0.out.lt b_r0.out.lt_size (Nat.le_refl _)
        have c_n0 := b_n.out.at0 b_n.out.lt_size (Nat.le_refl _)
        have c_n1 := b_n.out.at1 b_n.out.lt_size (Nat.le_refl _)
        refine (hd.out _).mono ?_
        rintro e w2 ⟨A_d, c_d, rfl, R_d, hb⟩
        replace R_n := hide (Rd.then_ R_n.out hb)
        have U4 : Below V1.heap.size V1 w2 := Below.then_ U3 hb
        replace B := hide (Below.then_ B.out hb)
        replace R_d := hide R_d
        clear hb
        go_wp2_with fail
        refine (rbits_any _ _ _ _ _ _ R_d.out (Nat.le_refl _)).mono ?_
        rintro e w3 ⟨rfl, hb⟩
        replace R_n := hide (Rd.then_ R_n.out hb)
        replace R_d := hide (Rd.then_ R_d.out hb)
        have U5 : Below V1.heap.size V1 w3 := Below.then_ U4 hb
        replace B := hide (Below.then_ B.out hb)
        clear hb
        go_wp2_with fail
        refine (reduce_any R_n.out hl.out R_d.out hl1.out (Nat.le_refl _) hd1.out e_q.out).mono ?_
        rintro e w4 ⟨A_q, c_q, A_qd, c_qd, rfl, R_q, R_qd, hb⟩
        replace R_n := hide (Rd.then_ R_n.out hb)
        replace R_d := hide (Rd.then_ R_d.out hb)
        have U6 : Below V1.heap.size V1 w4 := Below.then_ U5 hb
        replace B := hide (Below.then_ B.out hb)
        replace R_q := hide R_q
        replace R_qd := hide R_qd
        clear hb
        go_wp2
        exact bodyPost_ret (v := .tuple #[.agg #[.bool (zneg q.num), .slice A_q (dig (zmag q.num)).length c_q, .slice A_qd (dig q.den).length c_qd], .int .i64 0]) (by simp [results, Try.results44, go_sem, c_r00 _ U6, c_r01 _ U6, c_r02 _ U6]) rfl (RetRV.box B.out (by omega) (c_r00 _ U6) (c_r01 _ U6) (c_r02 _ U6) R_q.out R_qd.out)

end Go.Proofs.Ytieopcchchebgaa
