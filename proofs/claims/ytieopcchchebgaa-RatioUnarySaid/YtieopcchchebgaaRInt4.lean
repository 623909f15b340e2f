/-
  The reference's Int64, Print, Parse.
-/
import Derived.Test.YtieopcchchebgaaRIntA
import Derived.Test.YtieopcchchebgaaRefText
import Derived.Test.YtieopcchchebgaaRefParse0
import Derived.Test.YtieopcchchebgaaRefParse
import Derived.Test.YtieopcchchebgaaIntB
namespace Go.Proofs.Ytieopcchchebgaa
open Go.RowKit

set_option maxHeartbeats 4000000 in
theorem riprint_neg (w : World) (Bd : Nat) (s : Bool) (A : Option Addr) (n c : Nat) (xs : List Nat) (h : Rd w Bd A n c xs) (hB : Bd ≤ w.heap.size) (hn : n ≤ 17592186044416) (hzn0 : zneg (iv s (val xs)) = true) :
    Calls Try.prog 69 #[.agg #[.bool s, .slice A n c]] w (RetB w (.string (zstr (iv s (val xs))))) := by
  obtain ⟨z, hz0⟩ : ∃ z, z = iv s (val xs) := ⟨_, rfl⟩
  obtain ⟨n1, hn1⟩ : ∃ n1, n1 = (dig (zmag z)).length := ⟨_, rfl⟩
  have hm1 : val (dig (zmag z)) = zmag z := val_dig _
  rw [← hz0] at hzn0 ⊢
  have hzl := dig_len_val h.limbs
  rw [h.len] at hzl
  have hzv : zmag z = val xs := by rw [hz0, zmag_iv]
  rw [← hzv, ← hn1] at hzl
  obtain ⟨sz, hsz0⟩ : ∃ sz, sz = strN (dec (zmag z)) := ⟨_, rfl⟩
  have hst : zstr z = (⟨#[45]⟩ : ByteArray) ++ sz := by unfold zstr; rw [if_pos (by simpa [zneg] using hzn0), hsz0]
  have hzs : ¬ 9223372036854775807 < 1 + sz.size := by
    have h1 := val_lt h.limbs
    have h2 := dec_len h1
    have := h.len
    rw [hsz0, strN_size, hzv]
    omega
  rw [hst]
  clear hst hzv
  have hzn := hide hzn0
  replace hz0 := hide hz0
  replace hn1 := hide hn1
  replace hm1 := hide hm1
  replace hsz0 := hide hsz0
  replace hzl := hide hzl
  clear hzn0
  have H := hide h
  clear h
  obtain ⟨W, hW⟩ : ∃ W, W = (w.alloc (.cells #[.bool s, .slice A n c] 25)) := ⟨_, rfl⟩
  have b0 : Box W (w.heap.size) (.bool s) (.slice A n c) := by rw [hW]; exact (Box.new w _ _ rfl)
  have hwW : Below w.heap.size w W := by rw [hW]; exact ((Below.refl _ _).alloc (Nat.le_refl _) _)
  have hsz : W.heap.size = w.heap.size + 1 := by rw [hW]; simp
  replace hsz := hide hsz
  go_enter Try.func69, Try.ntmps69
  go_wp2_with fail
  rw [← hW]
  clear hW
  have hg : w.heap.size + 1 ≤ W.heap.size := by have := hsz.out; omega
  have c00 := b0.at0 (B := w.heap.size + 1) (by omega) hg
  have c01 := b0.at1 (B := w.heap.size + 1) (by omega) hg
  have hS0 : Below W.heap.size W W := Below.refl _ _
  have hT0 := hS0.mono hg
  replace hg := hide hg
  replace hwW := hide hwW
  replace b0 := hide b0
  have hx : ∀ w', Below W.heap.size W w' → Rd w' w'.heap.size A n c xs := fun w' hS => H.out.there hB hwW.out hS
  replace hx := hide hx
  refine (rinorm_any _ _ s A n c xs (hx.out _ hS0) (Nat.le_refl _)).mono ?_
  rw [← hz0.out]
  rintro e w1 ⟨A1, c1, rfl, R1, hb1⟩
  have hS1 : Below W.heap.size W w1 := Below.then_ hS0 hb1
  have hT1 := hS1.mono hg.out
  replace hb1 := hide hb1
  rw [← hn1.out] at R1
  rw [← hn1.out, hzn.out]
  replace R1 := hide R1
  go_wp2_with fail
  obtain ⟨W1, hW1⟩ : ∃ W1, W1 = w1.alloc (.cells #[.bool true, .slice A1 n1 c1] 25) := ⟨_, rfl⟩
  rw [← hW1]
  have hl1 : Below w1.heap.size w1 W1 := by rw [hW1]; exact (Below.refl _ _).alloc (Nat.le_refl _) _
  clear hW1
  have hS2 := Below.then_ hS1 hl1
  refine (rprint_any _ _ A1 n1 c1 _ (Rd.then_ R1.out hl1) (Nat.le_refl _) (by have := hzl.out; omega)).mono ?_
  rw [hm1.out, ← hsz0.out]
  rintro e w3 ⟨rfl, hb3⟩
  have hS3 := Below.then_ hS2 hb3
  replace hb3 := hide hb3
  go_wp2
  go_ret
  exact ⟨rfl, hwW.out.trans (hS3.mono hwW.out.size)⟩

set_option maxHeartbeats 4000000 in
theorem riprint_pos (w : World) (Bd : Nat) (s : Bool) (A : Option Addr) (n c : Nat) (xs : List Nat) (h : Rd w Bd A n c xs) (hB : Bd ≤ w.heap.size) (hn : n ≤ 17592186044416) (hzn0 : zneg (iv s (val xs)) = false) :
    Calls Try.prog 69 #[.agg #[.bool s, .slice A n c]] w (RetB w (.string (zstr (iv s (val xs))))) := by
  obtain ⟨z, hz0⟩ : ∃ z, z = iv s (val xs) := ⟨_, rfl⟩
  obtain ⟨n1, hn1⟩ : ∃ n1, n1 = (dig (zmag z)).length := ⟨_, rfl⟩
  have hm1 : val (dig (zmag z)) = zmag z := val_dig _
  rw [← hz0] at hzn0 ⊢
  have hzl := dig_len_val h.limbs
  rw [h.len] at hzl
  have hzv : zmag z = val xs := by rw [hz0, zmag_iv]
  rw [← hzv, ← hn1] at hzl
  obtain ⟨sz, hsz0⟩ : ∃ sz, sz = strN (dec (zmag z)) := ⟨_, rfl⟩
  have hst : zstr z = sz := by unfold zstr; rw [if_neg (by simpa [zneg] using hzn0), hsz0]
  rw [hst]
  clear hst hzv
  have hzn := hide hzn0
  replace hz0 := hide hz0
  replace hn1 := hide hn1
  replace hm1 := hide hm1
  replace hsz0 := hide hsz0
  replace hzl := hide hzl
  clear hzn0
  have H := hide h
  clear h
  obtain ⟨W, hW⟩ : ∃ W, W = (w.alloc (.cells #[.bool s, .slice A n c] 25)) := ⟨_, rfl⟩
  have b0 : Box W (w.heap.size) (.bool s) (.slice A n c) := by rw [hW]; exact (Box.new w _ _ rfl)
  have hwW : Below w.heap.size w W := by rw [hW]; exact ((Below.refl _ _).alloc (Nat.le_refl _) _)
  have hsz : W.heap.size = w.heap.size + 1 := by rw [hW]; simp
  replace hsz := hide hsz
  go_enter Try.func69, Try.ntmps69
  go_wp2_with fail
  rw [← hW]
  clear hW
  have hg : w.heap.size + 1 ≤ W.heap.size := by have := hsz.out; omega
  have c00 := b0.at0 (B := w.heap.size + 1) (by omega) hg
  have c01 := b0.at1 (B := w.heap.size + 1) (by omega) hg
  have hS0 : Below W.heap.size W W := Below.refl _ _
  have hT0 := hS0.mono hg
  replace hg := hide hg
  replace hwW := hide hwW
  replace b0 := hide b0
  have hx : ∀ w', Below W.heap.size W w' → Rd w' w'.heap.size A n c xs := fun w' hS => H.out.there hB hwW.out hS
  replace hx := hide hx
  refine (rinorm_any _ _ s A n c xs (hx.out _ hS0) (Nat.le_refl _)).mono ?_
  rw [← hz0.out]
  rintro e w1 ⟨A1, c1, rfl, R1, hb1⟩
  have hS1 : Below W.heap.size W w1 := Below.then_ hS0 hb1
  have hT1 := hS1.mono hg.out
  replace hb1 := hide hb1
  rw [← hn1.out] at R1
  rw [← hn1.out, hzn.out]
  replace R1 := hide R1
  go_wp2_with fail
  obtain ⟨W1, hW1⟩ : ∃ W1, W1 = w1.alloc (.cells #[.bool false, .slice A1 n1 c1] 25) := ⟨_, rfl⟩
  rw [← hW1]
  have hl1 : Below w1.heap.size w1 W1 := by rw [hW1]; exact (Below.refl _ _).alloc (Nat.le_refl _) _
  clear hW1
  have hS2 := Below.then_ hS1 hl1
  refine (rprint_any _ _ A1 n1 c1 _ (Rd.then_ R1.out hl1) (Nat.le_refl _) (by have := hzl.out; omega)).mono ?_
  rw [hm1.out, ← hsz0.out]
  rintro e w3 ⟨rfl, hb3⟩
  have hS3 := Below.then_ hS2 hb3
  replace hb3 := hide hb3
  go_wp2
  go_ret
  exact ⟨rfl, hwW.out.trans (hS3.mono hwW.out.size)⟩

theorem riprint_any (w : World) (Bd : Nat) (s : Bool) (A : Option Addr) (n c : Nat) (xs : List Nat) (h : Rd w Bd A n c xs) (hB : Bd ≤ w.heap.size) (hn : n ≤ 17592186044416) :
    Calls Try.prog 69 #[.agg #[.bool s, .slice A n c]] w (RetB w (.string (zstr (iv s (val xs))))) := by
  cases hz : zneg (iv s (val xs))
  · exact riprint_pos w Bd s A n c xs h hB hn hz
  · exact riprint_neg w Bd s A n c xs h hB hn hz

set_option maxHeartbeats 4000000 in
theorem riparse_err_true (w : World) (s : ByteArray) (hs : s.size ≤ 9223372036854775807) (h0 : 0 < s.size) (h1 : bt s 0 = 45) (k : Int) (hk : k ≠ 0) (m : Nat) (hp0 : ∀ w, Calls Try.prog 86 #[.string (s.extract 1 s.size)] w (RetPV w m k)) :
    Calls Try.prog 85 #[.string s] w (RetIV w (0) k) := by
  have hp := hide hp0
  clear hp0
  have hk1 : (k == 0) = false := by simpa using hk
  have hk2 : (k != 0) = true := by simpa using hk
  clear hk
  have hb : (((s[0]'h0).toNat : Int) == 45) = true := by rw [bt_get h0, h1]; rfl
  clear h1
  obtain ⟨W, hW⟩ : ∃ W, W = (w.alloc (.cells #[.bool false, .slice none 0 0] 25)) := ⟨_, rfl⟩
  have b0 : Box W (w.heap.size) (.bool false) (.slice none 0 0) := by rw [hW]; exact (Box.new w _ _ rfl)
  have hwW : Below w.heap.size w W := by rw [hW]; exact ((Below.refl _ _).alloc (Nat.le_refl _) _)
  have hsz : W.heap.size = w.heap.size + 1 := by rw [hW]; simp
  replace hsz := hide hsz
  go_enter Try.func85, Try.ntmps85
  go_wp2_with fail
  rw [← hW]
  clear hW
  have hg : w.heap.size ≤ W.heap.size := by have := hsz.out; omega
  have c00 := b0.at0 b0.lt_size (Nat.le_refl _)
  have c01 := b0.at1 b0.lt_size (Nat.le_refl _)
  have f00 := b0.free0 b0.lt_size (Nat.le_refl _)
  have f01 := b0.free1 b0.lt_size (Nat.le_refl _)
  have l0 := b0.lt b0.lt_size (Nat.le_refl _)
  have hS0 : Below W.heap.size W W := Below.refl _ _
  have hT0 := hS0.mono hg
  replace hg := hide hg
  replace hwW := hide hwW
  replace b0 := hide b0
  refine (hp.out _).mono ?_
  rintro e w1 ⟨A1, c1, rfl, R1, hb1⟩
  have hS1 : Below W.heap.size W w1 := Below.then_ hS0 hb1
  have hT1 := hS1.mono hg.out
  replace hb1 := hide hb1
  replace R1 := hide R1
  clear R1
  go_wp2
  exact bodyPost_ret (v := .tuple #[.agg #[.bool false, .slice none 0 0], .int .i64 k]) (by simp [results, Try.results85, go_sem, c00 _ hS1, c01 _ hS1]) rfl (RetIV.zero (hwW.out.trans (hS1.mono hwW.out.size)) (by omega) (c00 _ hS1) (c01 _ hS1))

set_option maxHeartbeats 4000000 in
theorem riparse_minus_true (w : World) (s : ByteArray) (hs : s.size ≤ 9223372036854775807) (h0 : 0 < s.size) (h1 : bt s 0 = 45)  (hp0 : ∀ w, Calls Try.prog 86 #[.string (s.extract 1 s.size)] w (RetPV w 0 0)) :
    Calls Try.prog 85 #[.string s] w (RetIV w (0) 2) := by
  have hp := hide hp0
  clear hp0
  have hb : (((s[0]'h0).toNat : Int) == 45) = true := by rw [bt_get h0, h1]; rfl
  clear h1
  obtain ⟨W, hW⟩ : ∃ W, W = (w.alloc (.cells #[.bool false, .slice none 0 0] 25)) := ⟨_, rfl⟩
  have b0 : Box W (w.heap.size) (.bool false) (.slice none 0 0) := by rw [hW]; exact (Box.new w _ _ rfl)
  have hwW : Below w.heap.size w W := by rw [hW]; exact ((Below.refl _ _).alloc (Nat.le_refl _) _)
  have hsz : W.heap.size = w.heap.size + 1 := by rw [hW]; simp
  replace hsz := hide hsz
  go_enter Try.func85, Try.ntmps85
  go_wp2_with fail
  rw [← hW]
  clear hW
  have hg : w.heap.size ≤ W.heap.size := by have := hsz.out; omega
  have c00 := b0.at0 b0.lt_size (Nat.le_refl _)
  have c01 := b0.at1 b0.lt_size (Nat.le_refl _)
  have f00 := b0.free0 b0.lt_size (Nat.le_refl _)
  have f01 := b0.free1 b0.lt_size (Nat.le_refl _)
  have l0 := b0.lt b0.lt_size (Nat.le_refl _)
  have hS0 : Below W.heap.size W W := Below.refl _ _
  have hT0 := hS0.mono hg
  replace hg := hide hg
  replace hwW := hide hwW
  replace b0 := hide b0
  refine (hp.out _).mono ?_
  rintro e w1 ⟨A1, c1, rfl, R1, hb1⟩
  have hS1 : Below W.heap.size W w1 := Below.then_ hS0 hb1
  have hT1 := hS1.mono hg.out
  replace hb1 := hide hb1
  replace R1 := hide R1
  rw [dig_zero, List.length_nil]
  clear R1
  go_wp2
  exact bodyPost_ret (v := .tuple #[.agg #[.bool false, .slice none 0 0], .int .i64 2]) (by simp [results, Try.results85, go_sem, c00 _ hS1, c01 _ hS1]) rfl (RetIV.zero (hwW.out.trans (hS1.mono hwW.out.size)) (by omega) (c00 _ hS1) (c01 _ hS1))

set_option maxHeartbeats 4000000 in
theorem riparse_ok_true (w : World) (s : ByteArray) (hs : s.size ≤ 9223372036854775807) (h0 : 0 < s.size) (h1 : bt s 0 = 45) (m : Nat) (hm : m ≠ 0) (hp0 : ∀ w, Calls Try.prog 86 #[.string (s.extract 1 s.size)] w (RetPV w m 0)) :
    Calls Try.prog 85 #[.string s] w (RetIV w (iv true m) 0) := by
  have hp := hide hp0
  clear hp0
  obtain ⟨z, hz0⟩ : ∃ z, z = iv true m := ⟨_, rfl⟩
  rw [← hz0]
  replace hz0 := hide hz0
  have hl : 0 < (dig m).length := Nat.pos_of_ne_zero (mt dig_len_zero.1 hm)
  clear hm
  obtain ⟨nm, hnm⟩ : ∃ nm, nm = (dig m).length := ⟨_, rfl⟩
  rw [← hnm] at hl
  replace hnm := hide hnm
  have hb : (((s[0]'h0).toNat : Int) == 45) = true := by rw [bt_get h0, h1]; rfl
  clear h1
  obtain ⟨W, hW⟩ : ∃ W, W = (w.alloc (.cells #[.bool false, .slice none 0 0] 25)) := ⟨_, rfl⟩
  have b0 : Box W (w.heap.size) (.bool false) (.slice none 0 0) := by rw [hW]; exact (Box.new w _ _ rfl)
  have hwW : Below w.heap.size w W := by rw [hW]; exact ((Below.refl _ _).alloc (Nat.le_refl _) _)
  have hsz : W.heap.size = w.heap.size + 1 := by rw [hW]; simp
  replace hsz := hide hsz
  go_enter Try.func85, Try.ntmps85
  go_wp2_with fail
  rw [← hW]
  clear hW
  have hg : w.heap.size ≤ W.heap.size := by have := hsz.out; omega
  have c00 := b0.at0 b0.lt_size (Nat.le_refl _)
  have c01 := b0.at1 b0.lt_size (Nat.le_refl _)
  have f00 := b0.free0 b0.lt_size (Nat.le_refl _)
  have f01 := b0.free1 b0.lt_size (Nat.le_refl _)
  have l0 := b0.lt b0.lt_size (Nat.le_refl _)
  have hS0 : Below W.heap.size W W := Below.refl _ _
  have hT0 := hS0.mono hg
  replace hg := hide hg
  replace hwW := hide hwW
  replace b0 := hide b0
  refine (hp.out _).mono ?_
  rintro e w1 ⟨A1, c1, rfl, R1, hb1⟩
  have hS1 : Below W.heap.size W w1 := Below.then_ hS0 hb1
  have hT1 := hS1.mono hg.out
  replace hb1 := hide hb1
  replace R1 := hide R1
  rw [← hnm.out] at R1 ⊢
  go_wp2_with fail
  refine (rimake_any _ _ (true) _ _ _ _ R1.out (Nat.le_refl _)).mono ?_
  rw [val_dig, ← hz0.out]
  rintro e w2 ⟨A2, c2, rfl, R2, hb2⟩
  have hS2 : Below W.heap.size W w2 := Below.then_ hS1 hb2
  have hT2 := hS2.mono hg.out
  replace hb2 := hide hb2
  replace R2 := hide R2
  go_wp2
  exact bodyPost_ret (v := .tuple #[.agg #[.bool (zneg z), .slice A2 (dig (zmag z)).length c2], .int .i64 0]) (by simp [results, Try.results85, go_sem, c00 _ hS2, c01 _ hS2]) rfl (RetIV.of (RetInt.box (hwW.out.trans (hS2.mono hwW.out.size)) (by omega) (c00 _ hS2) (c01 _ hS2) R2.out))

set_option maxHeartbeats 4000000 in
theorem riparse_err_empty (w : World) (s : ByteArray) (_hs : s.size ≤ 9223372036854775807) (h1 : s.size = 0) (k : Int) (hk : k ≠ 0) (m : Nat) (hp0 : ∀ w, Calls Try.prog 86 #[.string s] w (RetPV w m k)) :
    Calls Try.prog 85 #[.string s] w (RetIV w (0) k) := by
  have hp := hide hp0
  clear hp0
  have hk1 : (k == 0) = false := by simpa using hk
  have hk2 : (k != 0) = true := by simpa using hk
  clear hk
  have hlt : s.size < 1 := by omega
  clear h1
  obtain ⟨W, hW⟩ : ∃ W, W = (w.alloc (.cells #[.bool false, .slice none 0 0] 25)) := ⟨_, rfl⟩
  have b0 : Box W (w.heap.size) (.bool false) (.slice none 0 0) := by rw [hW]; exact (Box.new w _ _ rfl)
  have hwW : Below w.heap.size w W := by rw [hW]; exact ((Below.refl _ _).alloc (Nat.le_refl _) _)
  have hsz : W.heap.size = w.heap.size + 1 := by rw [hW]; simp
  replace hsz := hide hsz
  go_enter Try.func85, Try.ntmps85
  go_wp2_with fail
  rw [← hW]
  clear hW
  have hg : w.heap.size ≤ W.heap.size := by have := hsz.out; omega
  have c00 := b0.at0 b0.lt_size (Nat.le_refl _)
  have c01 := b0.at1 b0.lt_size (Nat.le_refl _)
  have f00 := b0.free0 b0.lt_size (Nat.le_refl _)
  have f01 := b0.free1 b0.lt_size (Nat.le_refl _)
  have l0 := b0.lt b0.lt_size (Nat.le_refl _)
  have hS0 : Below W.heap.size W W := Below.refl _ _
  have hT0 := hS0.mono hg
  replace hg := hide hg
  replace hwW := hide hwW
  replace b0 := hide b0
  refine (hp.out _).mono ?_
  rintro e w1 ⟨A1, c1, rfl, R1, hb1⟩
  have hS1 : Below W.heap.size W w1 := Below.then_ hS0 hb1
  have hT1 := hS1.mono hg.out
  replace hb1 := hide hb1
  replace R1 := hide R1
  clear R1
  go_wp2
  exact bodyPost_ret (v := .tuple #[.agg #[.bool false, .slice none 0 0], .int .i64 k]) (by simp [results, Try.results85, go_sem, c00 _ hS1, c01 _ hS1]) rfl (RetIV.zero (hwW.out.trans (hS1.mono hwW.out.size)) (by omega) (c00 _ hS1) (c01 _ hS1))

set_option maxHeartbeats 4000000 in
theorem riparse_ok_empty (w : World) (s : ByteArray) (_hs : s.size ≤ 9223372036854775807) (h1 : s.size = 0) (m : Nat) (hp0 : ∀ w, Calls Try.prog 86 #[.string s] w (RetPV w m 0)) :
    Calls Try.prog 85 #[.string s] w (RetIV w (iv false m) 0) := by
  have hp := hide hp0
  clear hp0
  obtain ⟨z, hz0⟩ : ∃ z, z = iv false m := ⟨_, rfl⟩
  rw [← hz0]
  replace hz0 := hide hz0
  obtain ⟨nm, hnm⟩ : ∃ nm, nm = (dig m).length := ⟨_, rfl⟩
  replace hnm := hide hnm
  have hlt : s.size < 1 := by omega
  clear h1
  obtain ⟨W, hW⟩ : ∃ W, W = (w.alloc (.cells #[.bool false, .slice none 0 0] 25)) := ⟨_, rfl⟩
  have b0 : Box W (w.heap.size) (.bool false) (.slice none 0 0) := by rw [hW]; exact (Box.new w _ _ rfl)
  have hwW : Below w.heap.size w W := by rw [hW]; exact ((Below.refl _ _).alloc (Nat.le_refl _) _)
  have hsz : W.heap.size = w.heap.size + 1 := by rw [hW]; simp
  replace hsz := hide hsz
  go_enter Try.func85, Try.ntmps85
  go_wp2_with fail
  rw [← hW]
  clear hW
  have hg : w.heap.size ≤ W.heap.size := by have := hsz.out; omega
  have c00 := b0.at0 b0.lt_size (Nat.le_refl _)
  have c01 := b0.at1 b0.lt_size (Nat.le_refl _)
  have f00 := b0.free0 b0.lt_size (Nat.le_refl _)
  have f01 := b0.free1 b0.lt_size (Nat.le_refl _)
  have l0 := b0.lt b0.lt_size (Nat.le_refl _)
  have hS0 : Below W.heap.size W W := Below.refl _ _
  have hT0 := hS0.mono hg
  replace hg := hide hg
  replace hwW := hide hwW
  replace b0 := hide b0
  refine (hp.out _).mono ?_
  rintro e w1 ⟨A1, c1, rfl, R1, hb1⟩
  have hS1 : Below W.heap.size W w1 := Below.then_ hS0 hb1
  have hT1 := hS1.mono hg.out
  replace hb1 := hide hb1
  replace R1 := hide R1
  rw [← hnm.out] at R1 ⊢
  go_wp2_with fail
  refine (rimake_any _ _ (false) _ _ _ _ R1.out (Nat.le_refl _)).mono ?_
  rw [val_dig, ← hz0.out]
  rintro e w2 ⟨A2, c2, rfl, R2, hb2⟩
  have hS2 : Below W.heap.size W w2 := Below.then_ hS1 hb2
  have hT2 := hS2.mono hg.out
  replace hb2 := hide hb2
  replace R2 := hide R2
  go_wp2
  exact bodyPost_ret (v := .tuple #[.agg #[.bool (zneg z), .slice A2 (dig (zmag z)).length c2], .int .i64 0]) (by simp [results, Try.results85, go_sem, c00 _ hS2, c01 _ hS2]) rfl (RetIV.of (RetInt.box (hwW.out.trans (hS2.mono hwW.out.size)) (by omega) (c00 _ hS2) (c01 _ hS2) R2.out))

set_option maxHeartbeats 4000000 in
theorem riparse_err_other (w : World) (s : ByteArray) (_hs : s.size ≤ 9223372036854775807) (h0 : 0 < s.size) (h1 : ¬ bt s 0 = 45) (k : Int) (hk : k ≠ 0) (m : Nat) (hp0 : ∀ w, Calls Try.prog 86 #[.string s] w (RetPV w m k)) :
    Calls Try.prog 85 #[.string s] w (RetIV w (0) k) := by
  have hp := hide hp0
  clear hp0
  have hk1 : (k == 0) = false := by simpa using hk
  have hk2 : (k != 0) = true := by simpa using hk
  clear hk
  have hb : (((s[0]'h0).toNat : Int) == 45) = false := by rw [bt_get h0]; simpa using fun h => h1 (by omega)
  clear h1
  obtain ⟨W, hW⟩ : ∃ W, W = (w.alloc (.cells #[.bool false, .slice none 0 0] 25)) := ⟨_, rfl⟩
  have b0 : Box W (w.heap.size) (.bool false) (.slice none 0 0) := by rw [hW]; exact (Box.new w _ _ rfl)
  have hwW : Below w.heap.size w W := by rw [hW]; exact ((Below.refl _ _).alloc (Nat.le_refl _) _)
  have hsz : W.heap.size = w.heap.size + 1 := by rw [hW]; simp
  replace hsz := hide hsz
  go_enter Try.func85, Try.ntmps85
  go_wp2_with fail
  rw [← hW]
  clear hW
  have hg : w.heap.size ≤ W.heap.size := by have := hsz.out; omega
  have c00 := b0.at0 b0.lt_size (Nat.le_refl _)
  have c01 := b0.at1 b0.lt_size (Nat.le_refl _)
  have f00 := b0.free0 b0.lt_size (Nat.le_refl _)
  have f01 := b0.free1 b0.lt_size (Nat.le_refl _)
  have l0 := b0.lt b0.lt_size (Nat.le_refl _)
  have hS0 : Below W.heap.size W W := Below.refl _ _
  have hT0 := hS0.mono hg
  replace hg := hide hg
  replace hwW := hide hwW
  replace b0 := hide b0
  refine (hp.out _).mono ?_
  rintro e w1 ⟨A1, c1, rfl, R1, hb1⟩
  have hS1 : Below W.heap.size W w1 := Below.then_ hS0 hb1
  have hT1 := hS1.mono hg.out
  replace hb1 := hide hb1
  replace R1 := hide R1
  clear R1
  go_wp2
  exact bodyPost_ret (v := .tuple #[.agg #[.bool false, .slice none 0 0], .int .i64 k]) (by simp [results, Try.results85, go_sem, c00 _ hS1, c01 _ hS1]) rfl (RetIV.zero (hwW.out.trans (hS1.mono hwW.out.size)) (by omega) (c00 _ hS1) (c01 _ hS1))

set_option maxHeartbeats 4000000 in
theorem riparse_ok_other (w : World) (s : ByteArray) (_hs : s.size ≤ 9223372036854775807) (h0 : 0 < s.size) (h1 : ¬ bt s 0 = 45) (m : Nat) (hp0 : ∀ w, Calls Try.prog 86 #[.string s] w (RetPV w m 0)) :
    Calls Try.prog 85 #[.string s] w (RetIV w (iv false m) 0) := by
  have hp := hide hp0
  clear hp0
  obtain ⟨z, hz0⟩ : ∃ z, z = iv false m := ⟨_, rfl⟩
  rw [← hz0]
  replace hz0 := hide hz0
  obtain ⟨nm, hnm⟩ : ∃ nm, nm = (dig m).length := ⟨_, rfl⟩
  replace hnm := hide hnm
  have hb : (((s[0]'h0).toNat : Int) == 45) = false := by rw [bt_get h0]; simpa using fun h => h1 (by omega)
  clear h1
  obtain ⟨W, hW⟩ : ∃ W, W = (w.alloc (.cells #[.bool false, .slice none 0 0] 25)) := ⟨_, rfl⟩
  have b0 : Box W (w.heap.size) (.bool false) (.slice none 0 0) := by rw [hW]; exact (Box.new w _ _ rfl)
  have hwW : Below w.heap.size w W := by rw [hW]; exact ((Below.refl _ _).alloc (Nat.le_refl _) _)
  have hsz : W.heap.size = w.heap.size + 1 := by rw [hW]; simp
  replace hsz := hide hsz
  go_enter Try.func85, Try.ntmps85
  go_wp2_with fail
  rw [← hW]
  clear hW
  have hg : w.heap.size ≤ W.heap.size := by have := hsz.out; omega
  have c00 := b0.at0 b0.lt_size (Nat.le_refl _)
  have c01 := b0.at1 b0.lt_size (Nat.le_refl _)
  have f00 := b0.free0 b0.lt_size (Nat.le_refl _)
  have f01 := b0.free1 b0.lt_size (Nat.le_refl _)
  have l0 := b0.lt b0.lt_size (Nat.le_refl _)
  have hS0 : Below W.heap.size W W := Below.refl _ _
  have hT0 := hS0.mono hg
  replace hg := hide hg
  replace hwW := hide hwW
  replace b0 := hide b0
  refine (hp.out _).mono ?_
  rintro e w1 ⟨A1, c1, rfl, R1, hb1⟩
  have hS1 : Below W.heap.size W w1 := Below.then_ hS0 hb1
  have hT1 := hS1.mono hg.out
  replace hb1 := hide hb1
  replace R1 := hide R1
  rw [← hnm.out] at R1 ⊢
  go_wp2_with fail
  refine (rimake_any _ _ (false) _ _ _ _ R1.out (Nat.le_refl _)).mono ?_
  rw [val_dig, ← hz0.out]
  rintro e w2 ⟨A2, c2, rfl, R2, hb2⟩
  have hS2 : Below W.heap.size W w2 := Below.then_ hS1 hb2
  have hT2 := hS2.mono hg.out
  replace hb2 := hide hb2
  replace R2 := hide R2
  go_wp2
  exact bodyPost_ret (v := .tuple #[.agg #[.bool (zneg z), .slice A2 (dig (zmag z)).length c2], .int .i64 0]) (by simp [results, Try.results85, go_sem, c00 _ hS2, c01 _ hS2]) rfl (RetIV.of (RetInt.box (hwW.out.trans (hS2.mono hwW.out.size)) (by omega) (c00 _ hS2) (c01 _ hS2) R2.out))

end Go.Proofs.Ytieopcchchebgaa
