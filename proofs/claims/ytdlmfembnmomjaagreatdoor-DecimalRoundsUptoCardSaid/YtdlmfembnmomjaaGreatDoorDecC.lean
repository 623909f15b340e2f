/-
  Dec7, Dec8, DecText, DecPar.
-/
import Derived.Test.YtdlmfembnmomjaaGreatDoorDecB
import Derived.Test.YtdlmfembnmomjaaGreatDoorStrB
namespace Go.Proofs.YtdlmfembnmomjaaGreatDoor
section
open Go.RowKit


theorem len_pw {m i : Nat} (h : (dig m).length ≤ i) : m < pw i := (dig_len_le _ _).1 h
theorem mul_pw {m t y i j : Nat} (h : val (dig m) * val (dig t) = y) (hm : m < pw i) (ht : t < pw j) : y < pw (i + j) := by rw [← h, val_dig, val_dig]; exact lt_mul hm ht

set_option maxHeartbeats 4000000 in
theorem dparse_A_tt {w : World} {s : ByteArray}  {u b a : ByteArray} {m : Nat} (hcp : ∀ w, Calls Tryz.prog 58 #[.string s, .string ⟨#[45]⟩] w (RetB w (.tuple #[.string u, .bool true]))) (hc : ∀ w, Calls Tryz.prog 59 #[.string u, .string ⟨#[46]⟩] w (RetB w (.tuple #[.string b, .string a, .bool true]))) (hp : ∀ w, Calls Tryz.prog 60 #[.string b] w (RetPV w m 2)) :
    Calls Tryz.prog 22 #[.string s] w (RetDec w 0 0 2) := by
  replace hcp := hide hcp
  replace hc := hide hc
  replace hp := hide hp
  obtain ⟨W, hW⟩ : ∃ W, W = (w.alloc (.cells #[.bool false, .slice none 0 0, .int .i64 0] 29)) := ⟨_, rfl⟩
  have b_r0 : BoxD W (w.heap.size) (.bool false) (.slice none 0 0) (.int .i64 0) := by rw [hW]; exact (BoxD.new w _ _ _ rfl)
  have hwW : Below w.heap.size w W := by rw [hW]; exact ((Below.refl _ _).alloc (Nat.le_refl _) _)
  have B := hide hwW
  clear hwW
  have U0 : Below W.heap.size W W := Below.refl _ _
  have c_r00 := b_r0.at0 b_r0.lt_size (Nat.le_refl _)
  have c_r01 := b_r0.at1 b_r0.lt_size (Nat.le_refl _)
  have c_r02 := b_r0.at2 b_r0.lt_size (Nat.le_refl _)
  have f_r00 := b_r0.free0 b_r0.lt_size (Nat.le_refl _)
  have f_r01 := b_r0.free1 b_r0.lt_size (Nat.le_refl _)
  have f_r02 := b_r0.free2 b_r0.lt_size (Nat.le_refl _)
  have l_r0 := b_r0.lt b_r0.lt_size (Nat.le_refl _)
  replace b_r0 := hide b_r0
  go_enter Tryz.func22, Tryz.ntmps22
  go_wp2_with fail
  rw [← hW]
  clear hW
  refine (hcp.out _).mono ?_
  rintro e w1 ⟨rfl, hb⟩
  have U1 : Below W.heap.size W w1 := Below.then_ U0 hb
  replace B := hide (Below.then_ B.out hb)
  clear hb
  go_wp2_with fail
  refine (hc.out _).mono ?_
  rintro e w2 ⟨rfl, hb⟩
  have U2 : Below W.heap.size W w2 := Below.then_ U1 hb
  replace B := hide (Below.then_ B.out hb)
  clear hb
  go_wp2_with fail
  refine (hp.out _).mono ?_
  rintro e w3 ⟨A_m, c_m, rfl, R_m, hb⟩
  have U3 : Below W.heap.size W w3 := Below.then_ U2 hb
  replace B := hide (Below.then_ B.out hb)
  replace R_m := hide R_m
  clear hb
  go_wp2
  exact bodyPost_ret (v := .tuple #[.agg #[.bool false, .slice none 0 0, .int .i64 0], .int .i64 2]) (by simp [results, Tryz.results22, go_sem, c_r00 _ U3, c_r01 _ U3, c_r02 _ U3]) rfl (RetDec.zero B.out (by omega) (c_r00 _ U3) (c_r01 _ U3) (c_r02 _ U3))

set_option maxHeartbeats 4000000 in
theorem dparse_A_tf {w : World} {s : ByteArray}  {u b a : ByteArray} {m : Nat} (hcp : ∀ w, Calls Tryz.prog 58 #[.string s, .string ⟨#[45]⟩] w (RetB w (.tuple #[.string u, .bool true]))) (hc : ∀ w, Calls Tryz.prog 59 #[.string u, .string ⟨#[46]⟩] w (RetB w (.tuple #[.string b, .string a, .bool false]))) (hp : ∀ w, Calls Tryz.prog 60 #[.string b] w (RetPV w m 2)) :
    Calls Tryz.prog 22 #[.string s] w (RetDec w 0 0 2) := by
  replace hcp := hide hcp
  replace hc := hide hc
  replace hp := hide hp
  obtain ⟨W, hW⟩ : ∃ W, W = (w.alloc (.cells #[.bool false, .slice none 0 0, .int .i64 0] 29)) := ⟨_, rfl⟩
  have b_r0 : BoxD W (w.heap.size) (.bool false) (.slice none 0 0) (.int .i64 0) := by rw [hW]; exact (BoxD.new w _ _ _ rfl)
  have hwW : Below w.heap.size w W := by rw [hW]; exact ((Below.refl _ _).alloc (Nat.le_refl _) _)
  have B := hide hwW
  clear hwW
  have U0 : Below W.heap.size W W := Below.refl _ _
  have c_r00 := b_r0.at0 b_r0.lt_size (Nat.le_refl _)
  have c_r01 := b_r0.at1 b_r0.lt_size (Nat.le_refl _)
  have c_r02 := b_r0.at2 b_r0.lt_size (Nat.le_refl _)
  have f_r00 := b_r0.free0 b_r0.lt_size (Nat.le_refl _)
  have f_r01 := b_r0.free1 b_r0.lt_size (Nat.le_refl _)
  have f_r02 := b_r0.free2 b_r0.lt_size (Nat.le_refl _)
  have l_r0 := b_r0.lt b_r0.lt_size (Nat.le_refl _)
  replace b_r0 := hide b_r0
  go_enter Tryz.func22, Tryz.ntmps22
  go_wp2_with fail
  rw [← hW]
  clear hW
  refine (hcp.out _).mono ?_
  rintro e w1 ⟨rfl, hb⟩
  have U1 : Below W.heap.size W w1 := Below.then_ U0 hb
  replace B := hide (Below.then_ B.out hb)
  clear hb
  go_wp2_with fail
  refine (hc.out _).mono ?_
  rintro e w2 ⟨rfl, hb⟩
  have U2 : Below W.heap.size W w2 := Below.then_ U1 hb
  replace B := hide (Below.then_ B.out hb)
  clear hb
  go_wp2_with fail
  refine (hp.out _).mono ?_
  rintro e w3 ⟨A_m, c_m, rfl, R_m, hb⟩
  have U3 : Below W.heap.size W w3 := Below.then_ U2 hb
  replace B := hide (Below.then_ B.out hb)
  replace R_m := hide R_m
  clear hb
  go_wp2
  exact bodyPost_ret (v := .tuple #[.agg #[.bool false, .slice none 0 0, .int .i64 0], .int .i64 2]) (by simp [results, Tryz.results22, go_sem, c_r00 _ U3, c_r01 _ U3, c_r02 _ U3]) rfl (RetDec.zero B.out (by omega) (c_r00 _ U3) (c_r01 _ U3) (c_r02 _ U3))

set_option maxHeartbeats 4000000 in
theorem dparse_A_ft {w : World} {s : ByteArray}  {u b a : ByteArray} {m : Nat} (hcp : ∀ w, Calls Tryz.prog 58 #[.string s, .string ⟨#[45]⟩] w (RetB w (.tuple #[.string u, .bool false]))) (hc : ∀ w, Calls Tryz.prog 59 #[.string u, .string ⟨#[46]⟩] w (RetB w (.tuple #[.string b, .string a, .bool true]))) (hp : ∀ w, Calls Tryz.prog 60 #[.string b] w (RetPV w m 2)) :
    Calls Tryz.prog 22 #[.string s] w (RetDec w 0 0 2) := by
  replace hcp := hide hcp
  replace hc := hide hc
  replace hp := hide hp
  obtain ⟨W, hW⟩ : ∃ W, W = (w.alloc (.cells #[.bool false, .slice none 0 0, .int .i64 0] 29)) := ⟨_, rfl⟩
  have b_r0 : BoxD W (w.heap.size) (.bool false) (.slice none 0 0) (.int .i64 0) := by rw [hW]; exact (BoxD.new w _ _ _ rfl)
  have hwW : Below w.heap.size w W := by rw [hW]; exact ((Below.refl _ _).alloc (Nat.le_refl _) _)
  have B := hide hwW
  clear hwW
  have U0 : Below W.heap.size W W := Below.refl _ _
  have c_r00 := b_r0.at0 b_r0.lt_size (Nat.le_refl _)
  have c_r01 := b_r0.at1 b_r0.lt_size (Nat.le_refl _)
  have c_r02 := b_r0.at2 b_r0.lt_size (Nat.le_refl _)
  have f_r00 := b_r0.free0 b_r0.lt_size (Nat.le_refl _)
  have f_r01 := b_r0.free1 b_r0.lt_size (Nat.le_refl _)
  have f_r02 := b_r0.free2 b_r0.lt_size (Nat.le_refl _)
  have l_r0 := b_r0.lt b_r0.lt_size (Nat.le_refl _)
  replace b_r0 := hide b_r0
  go_enter Tryz.func22, Tryz.ntmps22
  go_wp2_with fail
  rw [← hW]
  clear hW
  refine (hcp.out _).mono ?_
  rintro e w1 ⟨rfl, hb⟩
  have U1 : Below W.heap.size W w1 := Below.then_ U0 hb
  replace B := hide (Below.then_ B.out hb)
  clear hb
  go_wp2_with fail
  refine (hc.out _).mono ?_
  rintro e w2 ⟨rfl, hb⟩
  have U2 : Below W.heap.size W w2 := Below.then_ U1 hb
  replace B := hide (Below.then_ B.out hb)
  clear hb
  go_wp2_with fail
  refine (hp.out _).mono ?_
  rintro e w3 ⟨A_m, c_m, rfl, R_m, hb⟩
  have U3 : Below W.heap.size W w3 := Below.then_ U2 hb
  replace B := hide (Below.then_ B.out hb)
  replace R_m := hide R_m
  clear hb
  go_wp2
  exact bodyPost_ret (v := .tuple #[.agg #[.bool false, .slice none 0 0, .int .i64 0], .int .i64 2]) (by simp [results, Tryz.results22, go_sem, c_r00 _ U3, c_r01 _ U3, c_r02 _ U3]) rfl (RetDec.zero B.out (by omega) (c_r00 _ U3) (c_r01 _ U3) (c_r02 _ U3))

set_option maxHeartbeats 4000000 in
theorem dparse_A_ff {w : World} {s : ByteArray}  {u b a : ByteArray} {m : Nat} (hcp : ∀ w, Calls Tryz.prog 58 #[.string s, .string ⟨#[45]⟩] w (RetB w (.tuple #[.string u, .bool false]))) (hc : ∀ w, Calls Tryz.prog 59 #[.string u, .string ⟨#[46]⟩] w (RetB w (.tuple #[.string b, .string a, .bool false]))) (hp : ∀ w, Calls Tryz.prog 60 #[.string b] w (RetPV w m 2)) :
    Calls Tryz.prog 22 #[.string s] w (RetDec w 0 0 2) := by
  replace hcp := hide hcp
  replace hc := hide hc
  replace hp := hide hp
  obtain ⟨W, hW⟩ : ∃ W, W = (w.alloc (.cells #[.bool false, .slice none 0 0, .int .i64 0] 29)) := ⟨_, rfl⟩
  have b_r0 : BoxD W (w.heap.size) (.bool false) (.slice none 0 0) (.int .i64 0) := by rw [hW]; exact (BoxD.new w _ _ _ rfl)
  have hwW : Below w.heap.size w W := by rw [hW]; exact ((Below.refl _ _).alloc (Nat.le_refl _) _)
  have B := hide hwW
  clear hwW
  have U0 : Below W.heap.size W W := Below.refl _ _
  have c_r00 := b_r0.at0 b_r0.lt_size (Nat.le_refl _)
  have c_r01 := b_r0.at1 b_r0.lt_size (Nat.le_refl _)
  have c_r02 := b_r0.at2 b_r0.lt_size (Nat.le_refl _)
  have f_r00 := b_r0.free0 b_r0.lt_size (Nat.le_refl _)
  have f_r01 := b_r0.free1 b_r0.lt_size (Nat.le_refl _)
  have f_r02 := b_r0.free2 b_r0.lt_size (Nat.le_refl _)
  have l_r0 := b_r0.lt b_r0.lt_size (Nat.le_refl _)
  replace b_r0 := hide b_r0
  go_enter Tryz.func22, Tryz.ntmps22
  go_wp2_with fail
  rw [← hW]
  clear hW
  refine (hcp.out _).mono ?_
  rintro e w1 ⟨rfl, hb⟩
  have U1 : Below W.heap.size W w1 := Below.then_ U0 hb
  replace B := hide (Below.then_ B.out hb)
  clear hb
  go_wp2_with fail
  refine (hc.out _).mono ?_
  rintro e w2 ⟨rfl, hb⟩
  have U2 : Below W.heap.size W w2 := Below.then_ U1 hb
  replace B := hide (Below.then_ B.out hb)
  clear hb
  go_wp2_with fail
  refine (hp.out _).mono ?_
  rintro e w3 ⟨A_m, c_m, rfl, R_m, hb⟩
  have U3 : Below W.heap.size W w3 := Below.then_ U2 hb
  replace B := hide (Below.then_ B.out hb)
  replace R_m := hide R_m
  clear hb
  go_wp2
  exact bodyPost_ret (v := .tuple #[.agg #[.bool false, .slice none 0 0, .int .i64 0], .int .i64 2]) (by simp [results, Tryz.results22, go_sem, c_r00 _ U3, c_r01 _ U3, c_r02 _ U3]) rfl (RetDec.zero B.out (by omega) (c_r00 _ U3) (c_r01 _ U3) (c_r02 _ U3))

set_option maxHeartbeats 4000000 in
theorem dparse_B_tt {w : World} {s : ByteArray}  {u b a : ByteArray} {m : Nat} (hcp : ∀ w, Calls Tryz.prog 58 #[.string s, .string ⟨#[45]⟩] w (RetB w (.tuple #[.string u, .bool true]))) (hc : ∀ w, Calls Tryz.prog 59 #[.string u, .string ⟨#[46]⟩] w (RetB w (.tuple #[.string b, .string a, .bool true]))) {k : Int} (hk2 : (k == 2) = false) (hp : ∀ w, Calls Tryz.prog 60 #[.string b] w (RetPV w m k)) (hd : ∀ w, Calls Tryz.prog 61 #[.string a] w (RetB w (.bool false))) :
    Calls Tryz.prog 22 #[.string s] w (RetDec w 0 0 2) := by
  replace hcp := hide hcp
  replace hc := hide hc
  replace hp := hide hp
  replace hd := hide hd
  obtain ⟨W, hW⟩ : ∃ W, W = (w.alloc (.cells #[.bool false, .slice none 0 0, .int .i64 0] 29)) := ⟨_, rfl⟩
  have b_r0 : BoxD W (w.heap.size) (.bool false) (.slice none 0 0) (.int .i64 0) := by rw [hW]; exact (BoxD.new w _ _ _ rfl)
  have hwW : Below w.heap.size w W := by rw [hW]; exact ((Below.refl _ _).alloc (Nat.le_refl _) _)
  have B := hide hwW
  clear hwW
  have U0 : Below W.heap.size W W := Below.refl _ _
  have c_r00 := b_r0.at0 b_r0.lt_size (Nat.le_refl _)
  have c_r01 := b_r0.at1 b_r0.lt_size (Nat.le_refl _)
  have c_r02 := b_r0.at2 b_r0.lt_size (Nat.le_refl _)
  have f_r00 := b_r0.free0 b_r0.lt_size (Nat.le_refl _)
  have f_r01 := b_r0.free1 b_r0.lt_size (Nat.le_refl _)
  have f_r02 := b_r0.free2 b_r0.lt_size (Nat.le_refl _)
  have l_r0 := b_r0.lt b_r0.lt_size (Nat.le_refl _)
  replace b_r0 := hide b_r0
  go_enter Tryz.func22, Tryz.ntmps22
  go_wp2_with fail
  rw [← hW]
  clear hW
  refine (hcp.out _).mono ?_
  rintro e w1 ⟨rfl, hb⟩
  have U1 : Below W.heap.size W w1 := Below.then_ U0 hb
  replace B := hide (Below.then_ B.out hb)
  clear hb
  go_wp2_with fail
  refine (hc.out _).mono ?_
  rintro e w2 ⟨rfl, hb⟩
  have U2 : Below W.heap.size W w2 := Below.then_ U1 hb
  replace B := hide (Below.then_ B.out hb)
  clear hb
  go_wp2_with fail
  refine (hp.out _).mono ?_
  rintro e w3 ⟨A_m, c_m, rfl, R_m, hb⟩
  have U3 : Below W.heap.size W w3 := Below.then_ U2 hb
  replace B := hide (Below.then_ B.out hb)
  replace R_m := hide R_m
  clear hb
  go_wp2_with fail
  refine (hd.out _).mono ?_
  rintro e w4 ⟨rfl, hb⟩
  replace R_m := hide (Rd.then_ R_m.out hb)
  have U4 : Below W.heap.size W w4 := Below.then_ U3 hb
  replace B := hide (Below.then_ B.out hb)
  clear hb
  go_wp2
  exact bodyPost_ret (v := .tuple #[.agg #[.bool false, .slice none 0 0, .int .i64 0], .int .i64 2]) (by simp [results, Tryz.results22, go_sem, c_r00 _ U4, c_r01 _ U4, c_r02 _ U4]) rfl (RetDec.zero B.out (by omega) (c_r00 _ U4) (c_r01 _ U4) (c_r02 _ U4))

set_option maxHeartbeats 4000000 in
theorem dparse_B_ft {w : World} {s : ByteArray}  {u b a : ByteArray} {m : Nat} (hcp : ∀ w, Calls Tryz.prog 58 #[.string s, .string ⟨#[45]⟩] w (RetB w (.tuple #[.string u, .bool false]))) (hc : ∀ w, Calls Tryz.prog 59 #[.string u, .string ⟨#[46]⟩] w (RetB w (.tuple #[.string b, .string a, .bool true]))) {k : Int} (hk2 : (k == 2) = false) (hp : ∀ w, Calls Tryz.prog 60 #[.string b] w (RetPV w m k)) (hd : ∀ w, Calls Tryz.prog 61 #[.string a] w (RetB w (.bool false))) :
    Calls Tryz.prog 22 #[.string s] w (RetDec w 0 0 2) := by
  replace hcp := hide hcp
  replace hc := hide hc
  replace hp := hide hp
  replace hd := hide hd
  obtain ⟨W, hW⟩ : ∃ W, W = (w.alloc (.cells #[.bool false, .slice none 0 0, .int .i64 0] 29)) := ⟨_, rfl⟩
  have b_r0 : BoxD W (w.heap.size) (.bool false) (.slice none 0 0) (.int .i64 0) := by rw [hW]; exact (BoxD.new w _ _ _ rfl)
  have hwW : Below w.heap.size w W := by rw [hW]; exact ((Below.refl _ _).alloc (Nat.le_refl _) _)
  have B := hide hwW
  clear hwW
  have U0 : Below W.heap.size W W := Below.refl _ _
  have c_r00 := b_r0.at0 b_r0.lt_size (Nat.le_refl _)
  have c_r01 := b_r0.at1 b_r0.lt_size (Nat.le_refl _)
  have c_r02 := b_r0.at2 b_r0.lt_size (Nat.le_refl _)
  have f_r00 := b_r0.free0 b_r0.lt_size (Nat.le_refl _)
  have f_r01 := b_r0.free1 b_r0.lt_size (Nat.le_refl _)
  have f_r02 := b_r0.free2 b_r0.lt_size (Nat.le_refl _)
  have l_r0 := b_r0.lt b_r0.lt_size (Nat.le_refl _)
  replace b_r0 := hide b_r0
  go_enter Tryz.func22, Tryz.ntmps22
  go_wp2_with fail
  rw [← hW]
  clear hW
  refine (hcp.out _).mono ?_
  rintro e w1 ⟨rfl, hb⟩
  have U1 : Below W.heap.size W w1 := Below.then_ U0 hb
  replace B := hide (Below.then_ B.out hb)
  clear hb
  go_wp2_with fail
  refine (hc.out _).mono ?_
  rintro e w2 ⟨rfl, hb⟩
  have U2 : Below W.heap.size W w2 := Below.then_ U1 hb
  replace B := hide (Below.then_ B.out hb)
  clear hb
  go_wp2_with fail
  refine (hp.out _).mono ?_
  rintro e w3 ⟨A_m, c_m, rfl, R_m, hb⟩
  have U3 : Below W.heap.size W w3 := Below.then_ U2 hb
  replace B := hide (Below.then_ B.out hb)
  replace R_m := hide R_m
  clear hb
  go_wp2_with fail
  refine (hd.out _).mono ?_
  rintro e w4 ⟨rfl, hb⟩
  replace R_m := hide (Rd.then_ R_m.out hb)
  have U4 : Below W.heap.size W w4 := Below.then_ U3 hb
  replace B := hide (Below.then_ B.out hb)
  clear hb
  go_wp2
  exact bodyPost_ret (v := .tuple #[.agg #[.bool false, .slice none 0 0, .int .i64 0], .int .i64 2]) (by simp [results, Tryz.results22, go_sem, c_r00 _ U4, c_r01 _ U4, c_r02 _ U4]) rfl (RetDec.zero B.out (by omega) (c_r00 _ U4) (c_r01 _ U4) (c_r02 _ U4))

set_option maxHeartbeats 4000000 in
theorem dparse_C_tt {w : World} {s : ByteArray}  {u b a : ByteArray} {m : Nat} (hcp : ∀ w, Calls Tryz.prog 58 #[.string s, .string ⟨#[45]⟩] w (RetB w (.tuple #[.string u, .bool true]))) (hc : ∀ w, Calls Tryz.prog 59 #[.string u, .string ⟨#[46]⟩] w (RetB w (.tuple #[.string b, .string a, .bool true]))) {k : Int} (hk2 : (k == 2) = false) (hp : ∀ w, Calls Tryz.prog 60 #[.string b] w (RetPV w m k)) (hd : ∀ w, Calls Tryz.prog 61 #[.string a] w (RetB w (.bool true))) (hz : ∀ w, Calls Tryz.prog 62 #[.string u] w (RetB w (.bool true))) :
    Calls Tryz.prog 22 #[.string s] w (RetDec w 0 0 2) := by
  replace hcp := hide hcp
  replace hc := hide hc
  replace hp := hide hp
  replace hd := hide hd
  replace hz := hide hz
  obtain ⟨W, hW⟩ : ∃ W, W = (w.alloc (.cells #[.bool false, .slice none 0 0, .int .i64 0] 29)) := ⟨_, rfl⟩
  have b_r0 : BoxD W (w.heap.size) (.bool false) (.slice none 0 0) (.int .i64 0) := by rw [hW]; exact (BoxD.new w _ _ _ rfl)
  have hwW : Below w.heap.size w W := by rw [hW]; exact ((Below.refl _ _).alloc (Nat.le_refl _) _)
  have B := hide hwW
  clear hwW
  have U0 : Below W.heap.size W W := Below.refl _ _
  have c_r00 := b_r0.at0 b_r0.lt_size (Nat.le_refl _)
  have c_r01 := b_r0.at1 b_r0.lt_size (Nat.le_refl _)
  have c_r02 := b_r0.at2 b_r0.lt_size (Nat.le_refl _)
  have f_r00 := b_r0.free0 b_r0.lt_size (Nat.le_refl _)
  have f_r01 := b_r0.free1 b_r0.lt_size (Nat.le_refl _)
  have f_r02 := b_r0.free2 b_r0.lt_size (Nat.le_refl _)
  have l_r0 := b_r0.lt b_r0.lt_size (Nat.le_refl _)
  replace b_r0 := hide b_r0
  go_enter Tryz.func22, Tryz.ntmps22
  go_wp2_with fail
  rw [← hW]
  clear hW
  refine (hcp.out _).mono ?_
  rintro e w1 ⟨rfl, hb⟩
  have U1 : Below W.heap.size W w1 := Below.then_ U0 hb
  replace B := hide (Below.then_ B.out hb)
  clear hb
  go_wp2_with fail
  refine (hc.out _).mono ?_
  rintro e w2 ⟨rfl, hb⟩
  have U2 : Below W.heap.size W w2 := Below.then_ U1 hb
  replace B := hide (Below.then_ B.out hb)
  clear hb
  go_wp2_with fail
  refine (hp.out _).mono ?_
  rintro e w3 ⟨A_m, c_m, rfl, R_m, hb⟩
  have U3 : Below W.heap.size W w3 := Below.then_ U2 hb
  replace B := hide (Below.then_ B.out hb)
  replace R_m := hide R_m
  clear hb
  go_wp2_with fail
  refine (hd.out _).mono ?_
  rintro e w4 ⟨rfl, hb⟩
  replace R_m := hide (Rd.then_ R_m.out hb)
  have U4 : Below W.heap.size W w4 := Below.then_ U3 hb
  replace B := hide (Below.then_ B.out hb)
  clear hb
  go_wp2_with fail
  refine (hz.out _).mono ?_
  rintro e w5 ⟨rfl, hb⟩
  replace R_m := hide (Rd.then_ R_m.out hb)
  have U5 : Below W.heap.size W w5 := Below.then_ U4 hb
  replace B := hide (Below.then_ B.out hb)
  clear hb
  go_wp2
  exact bodyPost_ret (v := .tuple #[.agg #[.bool false, .slice none 0 0, .int .i64 0], .int .i64 2]) (by simp [results, Tryz.results22, go_sem, c_r00 _ U5, c_r01 _ U5, c_r02 _ U5]) rfl (RetDec.zero B.out (by omega) (c_r00 _ U5) (c_r01 _ U5) (c_r02 _ U5))

set_option maxHeartbeats 4000000 in
theorem dparse_C_tf {w : World} {s : ByteArray}  {u b a : ByteArray} {m : Nat} (hcp : ∀ w, Calls Tryz.prog 58 #[.string s, .string ⟨#[45]⟩] w (RetB w (.tuple #[.string u, .bool true]))) (hc : ∀ w, Calls Tryz.prog 59 #[.string u, .string ⟨#[46]⟩] w (RetB w (.tuple #[.string b, .string a, .bool false]))) {k : Int} (hk2 : (k == 2) = false) (hp : ∀ w, Calls Tryz.prog 60 #[.string b] w (RetPV w m k)) (hz : ∀ w, Calls Tryz.prog 62 #[.string u] w (RetB w (.bool true))) :
    Calls Tryz.prog 22 #[.string s] w (RetDec w 0 0 2) := by
  replace hcp := hide hcp
  replace hc := hide hc
  replace hp := hide hp
  replace hz := hide hz
  obtain ⟨W, hW⟩ : ∃ W, W = (w.alloc (.cells #[.bool false, .slice none 0 0, .int .i64 0] 29)) := ⟨_, rfl⟩
  have b_r0 : BoxD W (w.heap.size) (.bool false) (.slice none 0 0) (.int .i64 0) := by rw [hW]; exact (BoxD.new w _ _ _ rfl)
  have hwW : Below w.heap.size w W := by rw [hW]; exact ((Below.refl _ _).alloc (Nat.le_refl _) _)
  have B := hide hwW
  clear hwW
  have U0 : Below W.heap.size W W := Below.refl _ _
  have c_r00 := b_r0.at0 b_r0.lt_size (Nat.le_refl _)
  have c_r01 := b_r0.at1 b_r0.lt_size (Nat.le_refl _)
  have c_r02 := b_r0.at2 b_r0.lt_size (Nat.le_refl _)
  have f_r00 := b_r0.free0 b_r0.lt_size (Nat.le_refl _)
  have f_r01 := b_r0.free1 b_r0.lt_size (Nat.le_refl _)
  have f_r02 := b_r0.free2 b_r0.lt_size (Nat.le_refl _)
  have l_r0 := b_r0.lt b_r0.lt_size (Nat.le_refl _)
  replace b_r0 := hide b_r0
  go_enter Tryz.func22, Tryz.ntmps22
  go_wp2_with fail
  rw [← hW]
  clear hW
  refine (hcp.out _).mono ?_
  rintro e w1 ⟨rfl, hb⟩
  have U1 : Below W.heap.size W w1 := Below.then_ U0 hb
  replace B := hide (Below.then_ B.out hb)
  clear hb
  go_wp2_with fail
  refine (hc.out _).mono ?_
  rintro e w2 ⟨rfl, hb⟩
  have U2 : Below W.heap.size W w2 := Below.then_ U1 hb
  replace B := hide (Below.then_ B.out hb)
  clear hb
  go_wp2_with fail
  refine (hp.out _).mono ?_
  rintro e w3 ⟨A_m, c_m, rfl, R_m, hb⟩
  have U3 : Below W.heap.size W w3 := Below.then_ U2 hb
  replace B := hide (Below.then_ B.out hb)
  replace R_m := hide R_m
  clear hb
  go_wp2_with fail
  refine (hz.out _).mono ?_
  rintro e w4 ⟨rfl, hb⟩
  replace R_m := hide (Rd.then_ R_m.out hb)
  have U4 : Below W.heap.size W w4 := Below.then_ U3 hb
  replace B := hide (Below.then_ B.out hb)
  clear hb
  go_wp2
  exact bodyPost_ret (v := .tuple #[.agg #[.bool false, .slice none 0 0, .int .i64 0], .int .i64 2]) (by simp [results, Tryz.results22, go_sem, c_r00 _ U4, c_r01 _ U4, c_r02 _ U4]) rfl (RetDec.zero B.out (by omega) (c_r00 _ U4) (c_r01 _ U4) (c_r02 _ U4))

set_option maxHeartbeats 4000000 in
theorem dparse_D_tt {w : World} {s : ByteArray}  {u b a : ByteArray} {m : Nat} (hcp : ∀ w, Calls Tryz.prog 58 #[.string s, .string ⟨#[45]⟩] w (RetB w (.tuple #[.string u, .bool true]))) (hc : ∀ w, Calls Tryz.prog 59 #[.string u, .string ⟨#[46]⟩] w (RetB w (.tuple #[.string b, .string a, .bool true]))) {k : Int} (hk2 : (k == 2) = false) (hk0 : (k != 0) = true) (hp : ∀ w, Calls Tryz.prog 60 #[.string b] w (RetPV w m k)) (hd : ∀ w, Calls Tryz.prog 61 #[.string a] w (RetB w (.bool true))) (hz : ∀ w, Calls Tryz.prog 62 #[.string u] w (RetB w (.bool false))) :
    Calls Tryz.prog 22 #[.string s] w (RetDec w 0 0 5) := by
  replace hcp := hide hcp
  replace hc := hide hc
  replace hp := hide hp
  replace hd := hide hd
  replace hz := hide hz
  obtain ⟨W, hW⟩ : ∃ W, W = (w.alloc (.cells #[.bool false, .slice none 0 0, .int .i64 0] 29)) := ⟨_, rfl⟩
  have b_r0 : BoxD W (w.heap.size) (.bool false) (.slice none 0 0) (.int .i64 0) := by rw [hW]; exact (BoxD.new w _ _ _ rfl)
  have hwW : Below w.heap.size w W := by rw [hW]; exact ((Below.refl _ _).alloc (Nat.le_refl _) _)
  have B := hide hwW
  clear hwW
  have U0 : Below W.heap.size W W := Below.refl _ _
  have c_r00 := b_r0.at0 b_r0.lt_size (Nat.le_refl _)
  have c_r01 := b_r0.at1 b_r0.lt_size (Nat.le_refl _)
  have c_r02 := b_r0.at2 b_r0.lt_size (Nat.le_refl _)
  have f_r00 := b_r0.free0 b_r0.lt_size (Nat.le_refl _)
  have f_r01 := b_r0.free1 b_r0.lt_size (Nat.le_refl _)
  have f_r02 := b_r0.free2 b_r0.lt_size (Nat.le_refl _)
  have l_r0 := b_r0.lt b_r0.lt_size (Nat.le_refl _)
  replace b_r0 := hide b_r0
  go_enter Tryz.func22, Tryz.ntmps22
  go_wp2_with fail
  rw [← hW]
  clear hW
  refine (hcp.out _).mono ?_
  rintro e w1 ⟨rfl, hb⟩
  have U1 : Below W.heap.size W w1 := Below.then_ U0 hb
  replace B := hide (Below.then_ B.out hb)
  clear hb
  go_wp2_with fail
  refine (hc.out _).mono ?_
  rintro e w2 ⟨rfl, hb⟩
  have U2 : Below W.heap.size W w2 := Below.then_ U1 hb
  replace B := hide (Below.then_ B.out hb)
  clear hb
  go_wp2_with fail
  refine (hp.out _).mono ?_
  rintro e w3 ⟨A_m, c_m, rfl, R_m, hb⟩
  have U3 : Below W.heap.size W w3 := Below.then_ U2 hb
  replace B := hide (Below.then_ B.out hb)
  replace R_m := hide R_m
  clear hb
  go_wp2_with fail
  refine (hd.out _).mono ?_
  rintro e w4 ⟨rfl, hb⟩
  replace R_m := hide (Rd.then_ R_m.out hb)
  have U4 : Below W.heap.size W w4 := Below.then_ U3 hb
  replace B := hide (Below.then_ B.out hb)
  clear hb
  go_wp2_with fail
  refine (hz.out _).mono ?_
  rintro e w5 ⟨rfl, hb⟩
  replace R_m := hide (Rd.then_ R_m.out hb)
  have U5 : Below W.heap.size W w5 := Below.then_ U4 hb
  replace B := hide (Below.then_ B.out hb)
  clear hb
  go_wp2
  exact bodyPost_ret (v := .tuple #[.agg #[.bool false, .slice none 0 0, .int .i64 0], .int .i64 5]) (by simp [results, Tryz.results22, go_sem, c_r00 _ U5, c_r01 _ U5, c_r02 _ U5]) rfl (RetDec.zero B.out (by omega) (c_r00 _ U5) (c_r01 _ U5) (c_r02 _ U5))

set_option maxHeartbeats 4000000 in
theorem dparse_D_tf {w : World} {s : ByteArray}  {u b a : ByteArray} {m : Nat} (hcp : ∀ w, Calls Tryz.prog 58 #[.string s, .string ⟨#[45]⟩] w (RetB w (.tuple #[.string u, .bool true]))) (hc : ∀ w, Calls Tryz.prog 59 #[.string u, .string ⟨#[46]⟩] w (RetB w (.tuple #[.string b, .string a, .bool false]))) {k : Int} (hk2 : (k == 2) = false) (hk0 : (k != 0) = true) (hp : ∀ w, Calls Tryz.prog 60 #[.string b] w (RetPV w m k)) (hz : ∀ w, Calls Tryz.prog 62 #[.string u] w (RetB w (.bool false))) :
    Calls Tryz.prog 22 #[.string s] w (RetDec w 0 0 5) := by
  replace hcp := hide hcp
  replace hc := hide hc
  replace hp := hide hp
  replace hz := hide hz
  obtain ⟨W, hW⟩ : ∃ W, W = (w.alloc (.cells #[.bool false, .slice none 0 0, .int .i64 0] 29)) := ⟨_, rfl⟩
  have b_r0 : BoxD W (w.heap.size) (.bool false) (.slice none 0 0) (.int .i64 0) := by rw [hW]; exact (BoxD.new w _ _ _ rfl)
  have hwW : Below w.heap.size w W := by rw [hW]; exact ((Below.refl _ _).alloc (Nat.le_refl _) _)
  have B := hide hwW
  clear hwW
  have U0 : Below W.heap.size W W := Below.refl _ _
  have c_r00 := b_r0.at0 b_r0.lt_size (Nat.le_refl _)
  have c_r01 := b_r0.at1 b_r0.lt_size (Nat.le_refl _)
  have c_r02 := b_r0.at2 b_r0.lt_size (Nat.le_refl _)
  have f_r00 := b_r0.free0 b_r0.lt_size (Nat.le_refl _)
  have f_r01 := b_r0.free1 b_r0.lt_size (Nat.le_refl _)
  have f_r02 := b_r0.free2 b_r0.lt_size (Nat.le_refl _)
  have l_r0 := b_r0.lt b_r0.lt_size (Nat.le_refl _)
  replace b_r0 := hide b_r0
  go_enter Tryz.func22, Tryz.ntmps22
  go_wp2_with fail
  rw [← hW]
  clear hW
  refine (hcp.out _).mono ?_
  rintro e w1 ⟨rfl, hb⟩
  have U1 : Below W.heap.size W w1 := Below.then_ U0 hb
  replace B := hide (Below.then_ B.out hb)
  clear hb
  go_wp2_with fail
  refine (hc.out _).mono ?_
  rintro e w2 ⟨rfl, hb⟩
  have U2 : Below W.heap.size W w2 := Below.then_ U1 hb
  replace B := hide (Below.then_ B.out hb)
  clear hb
  go_wp2_with fail
  refine (hp.out _).mono ?_
  rintro e w3 ⟨A_m, c_m, rfl, R_m, hb⟩
  have U3 : Below W.heap.size W w3 := Below.then_ U2 hb
  replace B := hide (Below.then_ B.out hb)
  replace R_m := hide R_m
  clear hb
  go_wp2_with fail
  refine (hz.out _).mono ?_
  rintro e w4 ⟨rfl, hb⟩
  replace R_m := hide (Rd.then_ R_m.out hb)
  have U4 : Below W.heap.size W w4 := Below.then_ U3 hb
  replace B := hide (Below.then_ B.out hb)
  clear hb
  go_wp2
  exact bodyPost_ret (v := .tuple #[.agg #[.bool false, .slice none 0 0, .int .i64 0], .int .i64 5]) (by simp [results, Tryz.results22, go_sem, c_r00 _ U4, c_r01 _ U4, c_r02 _ U4]) rfl (RetDec.zero B.out (by omega) (c_r00 _ U4) (c_r01 _ U4) (c_r02 _ U4))

set_option maxHeartbeats 4000000 in
theorem dparse_D_ft {w : World} {s : ByteArray}  {u b a : ByteArray} {m : Nat} (hcp : ∀ w, Calls Tryz.prog 58 #[.string s, .string ⟨#[45]⟩] w (RetB w (.tuple #[.string u, .bool false]))) (hc : ∀ w, Calls Tryz.prog 59 #[.string u, .string ⟨#[46]⟩] w (RetB w (.tuple #[.string b, .string a, .bool true]))) {k : Int} (hk2 : (k == 2) = false) (hk0 : (k != 0) = true) (hp : ∀ w, Calls Tryz.prog 60 #[.string b] w (RetPV w m k)) (hd : ∀ w, Calls Tryz.prog 61 #[.string a] w (RetB w (.bool true))) :
    Calls Tryz.prog 22 #[.string s] w (RetDec w 0 0 5) := by
  replace hcp := hide hcp
  replace hc := hide hc
  replace hp := hide hp
  replace hd := hide hd
  obtain ⟨W, hW⟩ : ∃ W, W = (w.alloc (.cells #[.bool false, .slice none 0 0, .int .i64 0] 29)) := ⟨_, rfl⟩
  have b_r0 : BoxD W (w.heap.size) (.bool false) (.slice none 0 0) (.int .i64 0) := by rw [hW]; exact (BoxD.new w _ _ _ rfl)
  have hwW : Below w.heap.size w W := by rw [hW]; exact ((Below.refl _ _).alloc (Nat.le_refl _) _)
  have B := hide hwW
  clear hwW
  have U0 : Below W.heap.size W W := Below.refl _ _
  have c_r00 := b_r0.at0 b_r0.lt_size (Nat.le_refl _)
  have c_r01 := b_r0.at1 b_r0.lt_size (Nat.le_refl _)
  have c_r02 := b_r0.at2 b_r0.lt_size (Nat.le_refl _)
  have f_r00 := b_r0.free0 b_r0.lt_size (Nat.le_refl _)
  have f_r01 := b_r0.free1 b_r0.lt_size (Nat.le_refl _)
  have f_r02 := b_r0.free2 b_r0.lt_size (Nat.le_refl _)
  have l_r0 := b_r0.lt b_r0.lt_size (Nat.le_refl _)
  replace b_r0 := hide b_r0
  go_enter Tryz.func22, Tryz.ntmps22
  go_wp2_with fail
  rw [← hW]
  clear hW
  refine (hcp.out _).mono ?_
  rintro e w1 ⟨rfl, hb⟩
  have U1 : Below W.heap.size W w1 := Below.then_ U0 hb
  replace B := hide (Below.then_ B.out hb)
  clear hb
  go_wp2_with fail
  refine (hc.out _).mono ?_
  rintro e w2 ⟨rfl, hb⟩
  have U2 : Below W.heap.size W w2 := Below.then_ U1 hb
  replace B := hide (Below.then_ B.out hb)
  clear hb
  go_wp2_with fail
  refine (hp.out _).mono ?_
  rintro e w3 ⟨A_m, c_m, rfl, R_m, hb⟩
  have U3 : Below W.heap.size W w3 := Below.then_ U2 hb
  replace B := hide (Below.then_ B.out hb)
  replace R_m := hide R_m
  clear hb
  go_wp2_with fail
  refine (hd.out _).mono ?_
  rintro e w4 ⟨rfl, hb⟩
  replace R_m := hide (Rd.then_ R_m.out hb)
  have U4 : Below W.heap.size W w4 := Below.then_ U3 hb
  replace B := hide (Below.then_ B.out hb)
  clear hb
  go_wp2
  exact bodyPost_ret (v := .tuple #[.agg #[.bool false, .slice none 0 0, .int .i64 0], .int .i64 5]) (by simp [results, Tryz.results22, go_sem, c_r00 _ U4, c_r01 _ U4, c_r02 _ U4]) rfl (RetDec.zero B.out (by omega) (c_r00 _ U4) (c_r01 _ U4) (c_r02 _ U4))

set_option maxHeartbeats 4000000 in
theorem dparse_D_ff {w : World} {s : ByteArray}  {u b a : ByteArray} {m : Nat} (hcp : ∀ w, Calls Tryz.prog 58 #[.string s, .string ⟨#[45]⟩] w (RetB w (.tuple #[.string u, .bool false]))) (hc : ∀ w, Calls Tryz.prog 59 #[.string u, .string ⟨#[46]⟩] w (RetB w (.tuple #[.string b, .string a, .bool false]))) {k : Int} (hk2 : (k == 2) = false) (hk0 : (k != 0) = true) (hp : ∀ w, Calls Tryz.prog 60 #[.string b] w (RetPV w m k)) :
    Calls Tryz.prog 22 #[.string s] w (RetDec w 0 0 5) := by
  replace hcp := hide hcp
  replace hc := hide hc
  replace hp := hide hp
  obtain ⟨W, hW⟩ : ∃ W, W = (w.alloc (.cells #[.bool false, .slice none 0 0, .int .i64 0] 29)) := ⟨_, rfl⟩
  have b_r0 : BoxD W (w.heap.size) (.bool false) (.slice none 0 0) (.int .i64 0) := by rw [hW]; exact (BoxD.new w _ _ _ rfl)
  have hwW : Below w.heap.size w W := by rw [hW]; exact ((Below.refl _ _).alloc (Nat.le_refl _) _)
  have B := hide hwW
  clear hwW
  have U0 : Below W.heap.size W W := Below.refl _ _
  have c_r00 := b_r0.at0 b_r0.lt_size (Nat.le_refl _)
  have c_r01 := b_r0.at1 b_r0.lt_size (Nat.le_refl _)
  have c_r02 := b_r0.at2 b_r0.lt_size (Nat.le_refl _)
  have f_r00 := b_r0.free0 b_r0.lt_size (Nat.le_refl _)
  have f_r01 := b_r0.free1 b_r0.lt_size (Nat.le_refl _)
  have f_r02 := b_r0.free2 b_r0.lt_size (Nat.le_refl _)
  have l_r0 := b_r0.lt b_r0.lt_size (Nat.le_refl _)
  replace b_r0 := hide b_r0
  go_enter Tryz.func22, Tryz.ntmps22
  go_wp2_with fail
  rw [← hW]
  clear hW
  refine (hcp.out _).mono ?_
  rintro e w1 ⟨rfl, hb⟩
  have U1 : Below W.heap.size W w1 := Below.then_ U0 hb
  replace B := hide (Below.then_ B.out hb)
  clear hb
  go_wp2_with fail
  refine (hc.out _).mono ?_
  rintro e w2 ⟨rfl, hb⟩
  have U2 : Below W.heap.size W w2 := Below.then_ U1 hb
  replace B := hide (Below.then_ B.out hb)
  clear hb
  go_wp2_with fail
  refine (hp.out _).mono ?_
  rintro e w3 ⟨A_m, c_m, rfl, R_m, hb⟩
  have U3 : Below W.heap.size W w3 := Below.then_ U2 hb
  replace B := hide (Below.then_ B.out hb)
  replace R_m := hide R_m
  clear hb
  go_wp2
  exact bodyPost_ret (v := .tuple #[.agg #[.bool false, .slice none 0 0, .int .i64 0], .int .i64 5]) (by simp [results, Tryz.results22, go_sem, c_r00 _ U3, c_r01 _ U3, c_r02 _ U3]) rfl (RetDec.zero B.out (by omega) (c_r00 _ U3) (c_r01 _ U3) (c_r02 _ U3))

set_option maxHeartbeats 4000000 in
theorem dparse_E_tt {w : World} {s : ByteArray}  {u b a : ByteArray} {m : Nat} (hcp : ∀ w, Calls Tryz.prog 58 #[.string s, .string ⟨#[45]⟩] w (RetB w (.tuple #[.string u, .bool true]))) (hc : ∀ w, Calls Tryz.prog 59 #[.string u, .string ⟨#[46]⟩] w (RetB w (.tuple #[.string b, .string a, .bool true]))) (hp : ∀ w, Calls Tryz.prog 60 #[.string b] w (RetPV w m 0)) (hd : ∀ w, Calls Tryz.prog 61 #[.string a] w (RetB w (.bool true))) (hz : ∀ w, Calls Tryz.prog 62 #[.string u] w (RetB w (.bool false))) (ha : 9 < a.size) :
    Calls Tryz.prog 22 #[.string s] w (RetDec w 0 0 5) := by
  replace hcp := hide hcp
  replace hc := hide hc
  replace hp := hide hp
  replace hd := hide hd
  replace hz := hide hz
  have ha' : decide ((9 : Int) < (a.size : Int)) = true := decide_eq_true (by omega)
  clear ha
  obtain ⟨W, hW⟩ : ∃ W, W = (w.alloc (.cells #[.bool false, .slice none 0 0, .int .i64 0] 29)) := ⟨_, rfl⟩
  have b_r0 : BoxD W (w.heap.size) (.bool false) (.slice none 0 0) (.int .i64 0) := by rw [hW]; exact (BoxD.new w _ _ _ rfl)
  have hwW : Below w.heap.size w W := by rw [hW]; exact ((Below.refl _ _).alloc (Nat.le_refl _) _)
  have B := hide hwW
  clear hwW
  have U0 : Below W.heap.size W W := Below.refl _ _
  have c_r00 := b_r0.at0 b_r0.lt_size (Nat.le_refl _)
  have c_r01 := b_r0.at1 b_r0.lt_size (Nat.le_refl _)
  have c_r02 := b_r0.at2 b_r0.lt_size (Nat.le_refl _)
  have f_r00 := b_r0.free0 b_r0.lt_size (Nat.le_refl _)
  have f_r01 := b_r0.free1 b_r0.lt_size (Nat.le_refl _)
  have f_r02 := b_r0.free2 b_r0.lt_size (Nat.le_refl _)
  have l_r0 := b_r0.lt b_r0.lt_size (Nat.le_refl _)
  replace b_r0 := hide b_r0
  go_enter Tryz.func22, Tryz.ntmps22
  go_wp2_with fail
  rw [← hW]
  clear hW
  refine (hcp.out _).mono ?_
  rintro e w1 ⟨rfl, hb⟩
  have U1 : Below W.heap.size W w1 := Below.then_ U0 hb
  replace B := hide (Below.then_ B.out hb)
  clear hb
  go_wp2_with fail
  refine (hc.out _).mono ?_
  rintro e w2 ⟨rfl, hb⟩
  have U2 : Below W.heap.size W w2 := Below.then_ U1 hb
  replace B := hide (Below.then_ B.out hb)
  clear hb
  go_wp2_with fail
  refine (hp.out _).mono ?_
  rintro e w3 ⟨A_m, c_m, rfl, R_m, hb⟩
  have U3 : Below W.heap.size W w3 := Below.then_ U2 hb
  replace B := hide (Below.then_ B.out hb)
  replace R_m := hide R_m
  clear hb
  go_wp2_with fail
  refine (hd.out _).mono ?_
  rintro e w4 ⟨rfl, hb⟩
  replace R_m := hide (Rd.then_ R_m.out hb)
  have U4 : Below W.heap.size W w4 := Below.then_ U3 hb
  replace B := hide (Below.then_ B.out hb)
  clear hb
  go_wp2_with fail
  refine (hz.out _).mono ?_
  rintro e w5 ⟨rfl, hb⟩
  replace R_m := hide (Rd.then_ R_m.out hb)
  have U5 : Below W.heap.size W w5 := Below.then_ U4 hb
  replace B := hide (Below.then_ B.out hb)
  clear hb
  go_wp2
  exact bodyPost_ret (v := .tuple #[.agg #[.bool false, .slice none 0 0, .int .i64 0], .int .i64 5]) (by simp [results, Tryz.results22, go_sem, c_r00 _ U5, c_r01 _ U5, c_r02 _ U5]) rfl (RetDec.zero B.out (by omega) (c_r00 _ U5) (c_r01 _ U5) (c_r02 _ U5))

set_option maxHeartbeats 4000000 in
theorem dparse_E_tf {w : World} {s : ByteArray}  {u b a : ByteArray} {m : Nat} (hcp : ∀ w, Calls Tryz.prog 58 #[.string s, .string ⟨#[45]⟩] w (RetB w (.tuple #[.string u, .bool true]))) (hc : ∀ w, Calls Tryz.prog 59 #[.string u, .string ⟨#[46]⟩] w (RetB w (.tuple #[.string b, .string a, .bool false]))) (hp : ∀ w, Calls Tryz.prog 60 #[.string b] w (RetPV w m 0)) (hz : ∀ w, Calls Tryz.prog 62 #[.string u] w (RetB w (.bool false))) (ha : 9 < a.size) :
    Calls Tryz.prog 22 #[.string s] w (RetDec w 0 0 5) := by
  replace hcp := hide hcp
  replace hc := hide hc
  replace hp := hide hp
  replace hz := hide hz
  have ha' : decide ((9 : Int) < (a.size : Int)) = true := decide_eq_true (by omega)
  clear ha
  obtain ⟨W, hW⟩ : ∃ W, W = (w.alloc (.cells #[.bool false, .slice none 0 0, .int .i64 0] 29)) := ⟨_, rfl⟩
  have b_r0 : BoxD W (w.heap.size) (.bool false) (.slice none 0 0) (.int .i64 0) := by rw [hW]; exact (BoxD.new w _ _ _ rfl)
  have hwW : Below w.heap.size w W := by rw [hW]; exact ((Below.refl _ _).alloc (Nat.le_refl _) _)
  have B := hide hwW
  clear hwW
  have U0 : Below W.heap.size W W := Below.refl _ _
  have c_r00 := b_r0.at0 b_r0.lt_size (Nat.le_refl _)
  have c_r01 := b_r0.at1 b_r0.lt_size (Nat.le_refl _)
  have c_r02 := b_r0.at2 b_r0.lt_size (Nat.le_refl _)
  have f_r00 := b_r0.free0 b_r0.lt_size (Nat.le_refl _)
  have f_r01 := b_r0.free1 b_r0.lt_size (Nat.le_refl _)
  have f_r02 := b_r0.free2 b_r0.lt_size (Nat.le_refl _)
  have l_r0 := b_r0.lt b_r0.lt_size (Nat.le_refl _)
  replace b_r0 := hide b_r0
  go_enter Tryz.func22, Tryz.ntmps22
  go_wp2_with fail
  rw [← hW]
  clear hW
  refine (hcp.out _).mono ?_
  rintro e w1 ⟨rfl, hb⟩
  have U1 : Below W.heap.size W w1 := Below.then_ U0 hb
  replace B := hide (Below.then_ B.out hb)
  clear hb
  go_wp2_with fail
  refine (hc.out _).mono ?_
  rintro e w2 ⟨rfl, hb⟩
  have U2 : Below W.heap.size W w2 := Below.then_ U1 hb
  replace B := hide (Below.then_ B.out hb)
  clear hb
  go_wp2_with fail
  refine (hp.out _).mono ?_
  rintro e w3 ⟨A_m, c_m, rfl, R_m, hb⟩
  have U3 : Below W.heap.size W w3 := Below.then_ U2 hb
  replace B := hide (Below.then_ B.out hb)
  replace R_m := hide R_m
  clear hb
  go_wp2_with fail
  refine (hz.out _).mono ?_
  rintro e w4 ⟨rfl, hb⟩
  replace R_m := hide (Rd.then_ R_m.out hb)
  have U4 : Below W.heap.size W w4 := Below.then_ U3 hb
  replace B := hide (Below.then_ B.out hb)
  clear hb
  go_wp2
  exact bodyPost_ret (v := .tuple #[.agg #[.bool false, .slice none 0 0, .int .i64 0], .int .i64 5]) (by simp [results, Tryz.results22, go_sem, c_r00 _ U4, c_r01 _ U4, c_r02 _ U4]) rfl (RetDec.zero B.out (by omega) (c_r00 _ U4) (c_r01 _ U4) (c_r02 _ U4))

set_option maxHeartbeats 4000000 in
theorem dparse_E_ft {w : World} {s : ByteArray}  {u b a : ByteArray} {m : Nat} (hcp : ∀ w, Calls Tryz.prog 58 #[.string s, .string ⟨#[45]⟩] w (RetB w (.tuple #[.string u, .bool false]))) (hc : ∀ w, Calls Tryz.prog 59 #[.string u, .string ⟨#[46]⟩] w (RetB w (.tuple #[.string b, .string a, .bool true]))) (hp : ∀ w, Calls Tryz.prog 60 #[.string b] w (RetPV w m 0)) (hd : ∀ w, Calls Tryz.prog 61 #[.string a] w (RetB w (.bool true))) (ha : 9 < a.size) :
    Calls Tryz.prog 22 #[.string s] w (RetDec w 0 0 5) := by
  replace hcp := hide hcp
  replace hc := hide hc
  replace hp := hide hp
  replace hd := hide hd
  have ha' : decide ((9 : Int) < (a.size : Int)) = true := decide_eq_true (by omega)
  clear ha
  obtain ⟨W, hW⟩ : ∃ W, W = (w.alloc (.cells #[.bool false, .slice none 0 0, .int .i64 0] 29)) := ⟨_, rfl⟩
  have b_r0 : BoxD W (w.heap.size) (.bool false) (.slice none 0 0) (.int .i64 0) := by rw [hW]; exact (BoxD.new w _ _ _ rfl)
  have hwW : Below w.heap.size w W := by rw [hW]; exact ((Below.refl _ _).alloc (Nat.le_refl _) _)
  have B := hide hwW
  clear hwW
  have U0 : Below W.heap.size W W := Below.refl _ _
  have c_r00 := b_r0.at0 b_r0.lt_size (Nat.le_refl _)
  have c_r01 := b_r0.at1 b_r0.lt_size (Nat.le_refl _)
  have c_r02 := b_r0.at2 b_r0.lt_size (Nat.le_refl _)
  have f_r00 := b_r0.free0 b_r0.lt_size (Nat.le_refl _)
  have f_r01 := b_r0.free1 b_r0.lt_size (Nat.le_refl _)
  have f_r02 := b_r0.free2 b_r0.lt_size (Nat.le_refl _)
  have l_r0 := b_r0.lt b_r0.lt_size (Nat.le_refl _)
  replace b_r0 := hide b_r0
  go_enter Tryz.func22, Tryz.ntmps22
  go_wp2_with fail
  rw [← hW]
  clear hW
  refine (hcp.out _).mono ?_
  rintro e w1 ⟨rfl, hb⟩
  have U1 : Below W.heap.size W w1 := Below.then_ U0 hb
  replace B := hide (Below.then_ B.out hb)
  clear hb
  go_wp2_with fail
  refine (hc.out _).mono ?_
  rintro e w2 ⟨rfl, hb⟩
  have U2 : Below W.heap.size W w2 := Below.then_ U1 hb
  replace B := hide (Below.then_ B.out hb)
  clear hb
  go_wp2_with fail
  refine (hp.out _).mono ?_
  rintro e w3 ⟨A_m, c_m, rfl, R_m, hb⟩
  have U3 : Below W.heap.size W w3 := Below.then_ U2 hb
  replace B := hide (Below.then_ B.out hb)
  replace R_m := hide R_m
  clear hb
  go_wp2_with fail
  refine (hd.out _).mono ?_
  rintro e w4 ⟨rfl, hb⟩
  replace R_m := hide (Rd.then_ R_m.out hb)
  have U4 : Below W.heap.size W w4 := Below.then_ U3 hb
  replace B := hide (Below.then_ B.out hb)
  clear hb
  go_wp2
  exact bodyPost_ret (v := .tuple #[.agg #[.bool false, .slice none 0 0, .int .i64 0], .int .i64 5]) (by simp [results, Tryz.results22, go_sem, c_r00 _ U4, c_r01 _ U4, c_r02 _ U4]) rfl (RetDec.zero B.out (by omega) (c_r00 _ U4) (c_r01 _ U4) (c_r02 _ U4))

set_option maxHeartbeats 4000000 in
theorem dparse_E_ff {w : World} {s : ByteArray}  {u b a : ByteArray} {m : Nat} (hcp : ∀ w, Calls Tryz.prog 58 #[.string s, .string ⟨#[45]⟩] w (RetB w (.tuple #[.string u, .bool false]))) (hc : ∀ w, Calls Tryz.prog 59 #[.string u, .string ⟨#[46]⟩] w (RetB w (.tuple #[.string b, .string a, .bool false]))) (hp : ∀ w, Calls Tryz.prog 60 #[.string b] w (RetPV w m 0)) (ha : 9 < a.size) :
    Calls Tryz.prog 22 #[.string s] w (RetDec w 0 0 5) := by
  replace hcp := hide hcp
  replace hc := hide hc
  replace hp := hide hp
  have ha' : decide ((9 : Int) < (a.size : Int)) = true := decide_eq_true (by omega)
  clear ha
  obtain ⟨W, hW⟩ : ∃ W, W = (w.alloc (.cells #[.bool false, .slice none 0 0, .int .i64 0] 29)) := ⟨_, rfl⟩
  have b_r0 : BoxD W (w.heap.size) (.bool false) (.slice none 0 0) (.int .i64 0) := by rw [hW]; exact (BoxD.new w _ _ _ rfl)
  have hwW : Below w.heap.size w W := by rw [hW]; exact ((Below.refl _ _).alloc (Nat.le_refl _) _)
  have B := hide hwW
  clear hwW
  have U0 : Below W.heap.size W W := Below.refl _ _
  have c_r00 := b_r0.at0 b_r0.lt_size (Nat.le_refl _)
  have c_r01 := b_r0.at1 b_r0.lt_size (Nat.le_refl _)
  have c_r02 := b_r0.at2 b_r0.lt_size (Nat.le_refl _)
  have f_r00 := b_r0.free0 b_r0.lt_size (Nat.le_refl _)
  have f_r01 := b_r0.free1 b_r0.lt_size (Nat.le_refl _)
  have f_r02 := b_r0.free2 b_r0.lt_size (Nat.le_refl _)
  have l_r0 := b_r0.lt b_r0.lt_size (Nat.le_refl _)
  replace b_r0 := hide b_r0
  go_enter Tryz.func22, Tryz.ntmps22
  go_wp2_with fail
  rw [← hW]
  clear hW
  refine (hcp.out _).mono ?_
  rintro e w1 ⟨rfl, hb⟩
  have U1 : Below W.heap.size W w1 := Below.then_ U0 hb
  replace B := hide (Below.then_ B.out hb)
  clear hb
  go_wp2_with fail
  refine (hc.out _).mono ?_
  rintro e w2 ⟨rfl, hb⟩
  have U2 : Below W.heap.size W w2 := Below.then_ U1 hb
  replace B := hide (Below.then_ B.out hb)
  clear hb
  go_wp2_with fail
  refine (hp.out _).mono ?_
  rintro e w3 ⟨A_m, c_m, rfl, R_m, hb⟩
  have U3 : Below W.heap.size W w3 := Below.then_ U2 hb
  replace B := hide (Below.then_ B.out hb)
  replace R_m := hide R_m
  clear hb
  go_wp2
  exact bodyPost_ret (v := .tuple #[.agg #[.bool false, .slice none 0 0, .int .i64 0], .int .i64 5]) (by simp [results, Tryz.results22, go_sem, c_r00 _ U3, c_r01 _ U3, c_r02 _ U3]) rfl (RetDec.zero B.out (by omega) (c_r00 _ U3) (c_r01 _ U3) (c_r02 _ U3))

set_option maxHeartbeats 4000000 in
theorem dparse_F_tt {w : World} {s : ByteArray}  {u b a : ByteArray} {m : Nat} (hcp : ∀ w, Calls Tryz.prog 58 #[.string s, .string ⟨#[45]⟩] w (RetB w (.tuple #[.string u, .bool true]))) (hc : ∀ w, Calls Tryz.prog 59 #[.string u, .string ⟨#[46]⟩] w (RetB w (.tuple #[.string b, .string a, .bool true]))) (hp : ∀ w, Calls Tryz.prog 60 #[.string b] w (RetPV w m 0)) (hd : ∀ w, Calls Tryz.prog 61 #[.string a] w (RetB w (.bool true))) (hz : ∀ w, Calls Tryz.prog 62 #[.string u] w (RetB w (.bool false))) {d : Nat} {z : Int} (ha : a.size ≤ 9) (had : ∀ k, k < a.size → 48 ≤ bt a k ∧ bt a k ≤ 57) (hv : dvp a a.size = d) (hm : (dig m).length ≤ 400) (hz2 : iv true (m * 10 ^ a.size + d) = z) :
    Calls Tryz.prog 22 #[.string s] w (RetDec w z (a.size : Int) 0) := by
  replace hcp := hide hcp
  replace hc := hide hc
  replace hp := hide hp
  replace hd := hide hd
  replace hz := hide hz
  have ha' : decide ((9 : Int) < (a.size : Int)) = false := decide_eq_false (by omega)
  obtain ⟨T, e_T⟩ : ∃ new, 10 ^ a.size = new := ⟨_, rfl⟩
  replace e_T := hide e_T
  have lT : T < pw 1 := by rw [← e_T.out]; exact Nat.lt_of_le_of_lt (Nat.pow_le_pow_right (by omega) ha) (by decide)
  have lv : d < 10 ^ 9 := by rw [← hv]; exact Nat.lt_of_lt_of_le (dvp_lt had) (Nat.pow_le_pow_right (by omega) ha)
  have lv2 : d < 18446744073709551616 := Nat.lt_trans lv (by decide)
  replace lv2 := hide lv2
  obtain ⟨y, e_y⟩ : ∃ new, val (dig m) * val (dig T) = new := ⟨_, rfl⟩
  replace e_y := hide e_y
  have lm' := len_pw hm
  have ly := mul_pw e_y.out lm' lT
  have g1 : (dig m).length + (dig T).length ≤ 70368744177664 := by have := dl lT; omega
  replace g1 := hide g1
  obtain ⟨x, e_x⟩ : ∃ new, val (dig y) + val (dig d) = new := ⟨_, rfl⟩
  replace e_x := hide e_x
  have g2 : (dig y).length + 1 ≤ 70368744177664 := by have := dl ly; omega
  replace g2 := hide g2
  have g3 : (dig d).length + 1 ≤ 70368744177664 := by have := dl (show d < pw 1 from Nat.lt_trans lv (by decide)); omega
  replace g3 := hide g3
  have e_z : iv true (val (dig x)) = z := by rw [val_dig, ← e_x.out, val_dig, val_dig, ← e_y.out, val_dig, val_dig, ← e_T.out]; exact hz2
  replace e_z := hide e_z
  clear lT lv lm' ly hz2
  replace ha := hide ha
  replace had := hide had
  replace hv := hide hv
  replace hm := hide hm
  obtain ⟨W, hW⟩ : ∃ W, W = (w.alloc (.cells #[.bool false, .slice none 0 0, .int .i64 0] 29)) := ⟨_, rfl⟩
  have b_r0 : BoxD W (w.heap.size) (.bool false) (.slice none 0 0) (.int .i64 0) := by rw [hW]; exact (BoxD.new w _ _ _ rfl)
  have hwW : Below w.heap.size w W := by rw [hW]; exact ((Below.refl _ _).alloc (Nat.le_refl _) _)
  have B := hide hwW
  clear hwW
  have U0 : Below W.heap.size W W := Below.refl _ _
  have c_r00 := b_r0.at0 b_r0.lt_size (Nat.le_refl _)
  have c_r01 := b_r0.at1 b_r0.lt_size (Nat.le_refl _)
  have c_r02 := b_r0.at2 b_r0.lt_size (Nat.le_refl _)
  have f_r00 := b_r0.free0 b_r0.lt_size (Nat.le_refl _)
  have f_r01 := b_r0.free1 b_r0.lt_size (Nat.le_refl _)
  have f_r02 := b_r0.free2 b_r0.lt_size (Nat.le_refl _)
  have l_r0 := b_r0.lt b_r0.lt_size (Nat.le_refl _)
  replace b_r0 := hide b_r0
  go_enter Tryz.func22, Tryz.ntmps22
  go_wp2_with fail
  rw [← hW]
  clear hW
  refine (hcp.out _).mono ?_
  rintro e w1 ⟨rfl, hb⟩
  have U1 : Below W.heap.size W w1 := Below.then_ U0 hb
  replace B := hide (Below.then_ B.out hb)
  clear hb
  go_wp2_with fail
  refine (hc.out _).mono ?_
  rintro e w2 ⟨rfl, hb⟩
  have U2 : Below W.heap.size W w2 := Below.then_ U1 hb
  replace B := hide (Below.then_ B.out hb)
  clear hb
  go_wp2_with fail
  refine (hp.out _).mono ?_
  rintro e w3 ⟨A_m, c_m, rfl, R_m, hb⟩
  have U3 : Below W.heap.size W w3 := Below.then_ U2 hb
  replace B := hide (Below.then_ B.out hb)
  replace R_m := hide R_m
  clear hb
  go_wp2_with fail
  refine (hd.out _).mono ?_
  rintro e w4 ⟨rfl, hb⟩
  replace R_m := hide (Rd.then_ R_m.out hb)
  have U4 : Below W.heap.size W w4 := Below.then_ U3 hb
  replace B := hide (Below.then_ B.out hb)
  clear hb
  go_wp2_with fail
  refine (hz.out _).mono ?_
  rintro e w5 ⟨rfl, hb⟩
  replace R_m := hide (Rd.then_ R_m.out hb)
  have U5 : Below W.heap.size W w5 := Below.then_ U4 hb
  replace B := hide (Below.then_ B.out hb)
  clear hb
  go_wp2_with fail
  refine (scale_any ha.out e_T.out).mono ?_
  rintro e w6 ⟨A_T, c_T, rfl, R_T, hb⟩
  replace R_m := hide (Rd.then_ R_m.out hb)
  have U6 : Below W.heap.size W w6 := Below.then_ U5 hb
  replace B := hide (Below.then_ B.out hb)
  replace R_T := hide R_T
  clear hb
  go_wp2_with fail
  refine (mul_any _ _ _ _ _ _ _ _ _ _ R_m.out R_T.out (Nat.le_refl _) g1.out).mono ?_
  rw [e_y.out]
  rintro e w7 ⟨A_y, c_y, rfl, R_y, hb⟩
  replace R_m := hide (Rd.then_ R_m.out hb)
  replace R_T := hide (Rd.then_ R_T.out hb)
  have U7 : Below W.heap.size W w7 := Below.then_ U6 hb
  replace B := hide (Below.then_ B.out hb)
  replace R_y := hide R_y
  clear hb
  go_wp2_with fail
  refine (dvalue_any ha.out had.out hv.out _).mono ?_
  rintro e w8 ⟨rfl, hb⟩
  replace R_m := hide (Rd.then_ R_m.out hb)
  replace R_T := hide (Rd.then_ R_T.out hb)
  replace R_y := hide (Rd.then_ R_y.out hb)
  have U8 : Below W.heap.size W w8 := Below.then_ U7 hb
  replace B := hide (Below.then_ B.out hb)
  clear hb
  go_wp2_with fail
  refine (of_any _ d lv2.out).mono ?_
  rintro e w9 ⟨A_d, c_d, rfl, R_d, hb⟩
  replace R_m := hide (Rd.then_ R_m.out hb)
  replace R_T := hide (Rd.then_ R_T.out hb)
  replace R_y := hide (Rd.then_ R_y.out hb)
  have U9 : Below W.heap.size W w9 := Below.then_ U8 hb
  replace B := hide (Below.then_ B.out hb)
  replace R_d := hide R_d
  clear hb
  go_wp2_with fail
  refine (add_any _ _ _ _ _ _ _ _ _ _ R_y.out R_d.out (Nat.le_refl _) g2.out g3.out).mono ?_
  rw [e_x.out]
  rintro e w10 ⟨A_x, c_x, rfl, R_x, hb⟩
  replace R_m := hide (Rd.then_ R_m.out hb)
  replace R_T := hide (Rd.then_ R_T.out hb)
  replace R_y := hide (Rd.then_ R_y.out hb)
  replace R_d := hide (Rd.then_ R_d.out hb)
  have U10 : Below W.heap.size W w10 := Below.then_ U9 hb
  replace B := hide (Below.then_ B.out hb)
  replace R_x := hide R_x
  clear hb
  go_wp2_with fail
  refine (imake_any _ _ _ _ _ _ _ R_x.out (Nat.le_refl _)).mono ?_
  rw [e_z.out]
  rintro e w11 ⟨A_z, c_z, rfl, R_z, hb⟩
  replace R_m := hide (Rd.then_ R_m.out hb)
  replace R_T := hide (Rd.then_ R_T.out hb)
  replace R_y := hide (Rd.then_ R_y.out hb)
  replace R_d := hide (Rd.then_ R_d.out hb)
  replace R_x := hide (Rd.then_ R_x.out hb)
  have U11 : Below W.heap.size W w11 := Below.then_ U10 hb
  replace B := hide (Below.then_ B.out hb)
  replace R_z := hide R_z
  clear hb
  go_wp2
  exact bodyPost_ret (v := .tuple #[.agg #[.bool (zneg z), .slice A_z (dig (zmag z)).length c_z, .int .i64 (a.size : Int)], .int .i64 0]) (by simp [results, Tryz.results22, go_sem, c_r00 _ U11, c_r01 _ U11, c_r02 _ U11]) rfl (RetDec.box B.out (by omega) (c_r00 _ U11) (c_r01 _ U11) (c_r02 _ U11) R_z.out)

set_option maxHeartbeats 4000000 in
theorem dparse_F_tf {w : World} {s : ByteArray}  {u b a : ByteArray} {m : Nat} (hcp : ∀ w, Calls Tryz.prog 58 #[.string s, .string ⟨#[45]⟩] w (RetB w (.tuple #[.string u, .bool true]))) (hc : ∀ w, Calls Tryz.prog 59 #[.string u, .string ⟨#[46]⟩] w (RetB w (.tuple #[.string b, .string a, .bool false]))) (hp : ∀ w, Calls Tryz.prog 60 #[.string b] w (RetPV w m 0)) (hz : ∀ w, Calls Tryz.prog 62 #[.string u] w (RetB w (.bool false))) {d : Nat} {z : Int} (ha : a.size ≤ 9) (had : ∀ k, k < a.size → 48 ≤ bt a k ∧ bt a k ≤ 57) (hv : dvp a a.size = d) (hm : (dig m).length ≤ 400) (hz2 : iv true (m * 10 ^ a.size + d) = z) :
    Calls Tryz.prog 22 #[.string s] w (RetDec w z (a.size : Int) 0) := by
  replace hcp := hide hcp
  replace hc := hide hc
  replace hp := hide hp
  replace hz := hide hz
  have ha' : decide ((9 : Int) < (a.size : Int)) = false := decide_eq_false (by omega)
  obtain ⟨T, e_T⟩ : ∃ new, 10 ^ a.size = new := ⟨_, rfl⟩
  replace e_T := hide e_T
  have lT : T < pw 1 := by rw [← e_T.out]; exact Nat.lt_of_le_of_lt (Nat.pow_le_pow_right (by omega) ha) (by decide)
  have lv : d < 10 ^ 9 := by rw [← hv]; exact Nat.lt_of_lt_of_le (dvp_lt had) (Nat.pow_le_pow_right (by omega) ha)
  have lv2 : d < 18446744073709551616 := Nat.lt_trans lv (by decide)
  replace lv2 := hide lv2
  obtain ⟨y, e_y⟩ : ∃ new, val (dig m) * val (dig T) = new := ⟨_, rfl⟩
  replace e_y := hide e_y
  have lm' := len_pw hm
  have ly := mul_pw e_y.out lm' lT
  have g1 : (dig m).length + (dig T).length ≤ 70368744177664 := by have := dl lT; omega
  replace g1 := hide g1
  obtain ⟨x, e_x⟩ : ∃ new, val (dig y) + val (dig d) = new := ⟨_, rfl⟩
  replace e_x := hide e_x
  have g2 : (dig y).length + 1 ≤ 70368744177664 := by have := dl ly; omega
  replace g2 := hide g2
  have g3 : (dig d).length + 1 ≤ 70368744177664 := by have := dl (show d < pw 1 from Nat.lt_trans lv (by decide)); omega
  replace g3 := hide g3
  have e_z : iv true (val (dig x)) = z := by rw [val_dig, ← e_x.out, val_dig, val_dig, ← e_y.out, val_dig, val_dig, ← e_T.out]; exact hz2
  replace e_z := hide e_z
  clear lT lv lm' ly hz2
  replace ha := hide ha
  replace had := hide had
  replace hv := hide hv
  replace hm := hide hm
  obtain ⟨W, hW⟩ : ∃ W, W = (w.alloc (.cells #[.bool false, .slice none 0 0, .int .i64 0] 29)) := ⟨_, rfl⟩
  have b_r0 : BoxD W (w.heap.size) (.bool false) (.slice none 0 0) (.int .i64 0) := by rw [hW]; exact (BoxD.new w _ _ _ rfl)
  have hwW : Below w.heap.size w W := by rw [hW]; exact ((Below.refl _ _).alloc (Nat.le_refl _) _)
  have B := hide hwW
  clear hwW
  have U0 : Below W.heap.size W W := Below.refl _ _
  have c_r00 := b_r0.at0 b_r0.lt_size (Nat.le_refl _)
  have c_r01 := b_r0.at1 b_r0.lt_size (Nat.le_refl _)
  have c_r02 := b_r0.at2 b_r0.lt_size (Nat.le_refl _)
  have f_r00 := b_r0.free0 b_r0.lt_size (Nat.le_refl _)
  have f_r01 := b_r0.free1 b_r0.lt_size (Nat.le_refl _)
  have f_r02 := b_r0.free2 b_r0.lt_size (Nat.le_refl _)
  have l_r0 := b_r0.lt b_r0.lt_size (Nat.le_refl _)
  replace b_r0 := hide b_r0
  go_enter Tryz.func22, Tryz.ntmps22
  go_wp2_with fail
  rw [← hW]
  clear hW
  refine (hcp.out _).mono ?_
  rintro e w1 ⟨rfl, hb⟩
  have U1 : Below W.heap.size W w1 := Below.then_ U0 hb
  replace B := hide (Below.then_ B.out hb)
  clear hb
  go_wp2_with fail
  refine (hc.out _).mono ?_
  rintro e w2 ⟨rfl, hb⟩
  have U2 : Below W.heap.size W w2 := Below.then_ U1 hb
  replace B := hide (Below.then_ B.out hb)
  clear hb
  go_wp2_with fail
  refine (hp.out _).mono ?_
  rintro e w3 ⟨A_m, c_m, rfl, R_m, hb⟩
  have U3 : Below W.heap.size W w3 := Below.then_ U2 hb
  replace B := hide (Below.then_ B.out hb)
  replace R_m := hide R_m
  clear hb
  go_wp2_with fail
  refine (hz.out _).mono ?_
  rintro e w4 ⟨rfl, hb⟩
  replace R_m := hide (Rd.then_ R_m.out hb)
  have U4 : Below W.heap.size W w4 := Below.then_ U3 hb
  replace B := hide (Below.then_ B.out hb)
  clear hb
  go_wp2_with fail
  refine (scale_any ha.out e_T.out).mono ?_
  rintro e w5 ⟨A_T, c_T, rfl, R_T, hb⟩
  replace R_m := hide (Rd.then_ R_m.out hb)
  have U5 : Below W.heap.size W w5 := Below.then_ U4 hb
  replace B := hide (Below.then_ B.out hb)
  replace R_T := hide R_T
  clear hb
  go_wp2_with fail
  refine (mul_any _ _ _ _ _ _ _ _ _ _ R_m.out R_T.out (Nat.le_refl _) g1.out).mono ?_
  rw [e_y.out]
  rintro e w6 ⟨A_y, c_y, rfl, R_y, hb⟩
  replace R_m := hide (Rd.then_ R_m.out hb)
  replace R_T := hide (Rd.then_ R_T.out hb)
  have U6 : Below W.heap.size W w6 := Below.then_ U5 hb
  replace B := hide (Below.then_ B.out hb)
  replace R_y := hide R_y
  clear hb
  go_wp2_with fail
  refine (dvalue_any ha.out had.out hv.out _).mono ?_
  rintro e w7 ⟨rfl, hb⟩
  replace R_m := hide (Rd.then_ R_m.out hb)
  replace R_T := hide (Rd.then_ R_T.out hb)
  replace R_y := hide (Rd.then_ R_y.out hb)
  have U7 : Below W.heap.size W w7 := Below.then_ U6 hb
  replace B := hide (Below.then_ B.out hb)
  clear hb
  go_wp2_with fail
  refine (of_any _ d lv2.out).mono ?_
  rintro e w8 ⟨A_d, c_d, rfl, R_d, hb⟩
  replace R_m := hide (Rd.then_ R_m.out hb)
  replace R_T := hide (Rd.then_ R_T.out hb)
  replace R_y := hide (Rd.then_ R_y.out hb)
  have U8 : Below W.heap.size W w8 := Below.then_ U7 hb
  replace B := hide (Below.then_ B.out hb)
  replace R_d := hide R_d
  clear hb
  go_wp2_with fail
  refine (add_any _ _ _ _ _ _ _ _ _ _ R_y.out R_d.out (Nat.le_refl _) g2.out g3.out).mono ?_
  rw [e_x.out]
  rintro e w9 ⟨A_x, c_x, rfl, R_x, hb⟩
  replace R_m := hide (Rd.then_ R_m.out hb)
  replace R_T := hide (Rd.then_ R_T.out hb)
  replace R_y := hide (Rd.then_ R_y.out hb)
  replace R_d := hide (Rd.then_ R_d.out hb)
  have U9 : Below W.heap.size W w9 := Below.then_ U8 hb
  replace B := hide (Below.then_ B.out hb)
  replace R_x := hide R_x
  clear hb
  go_wp2_with fail
  refine (imake_any _ _ _ _ _ _ _ R_x.out (Nat.le_refl _)).mono ?_
  rw [e_z.out]
  rintro e w10 ⟨A_z, c_z, rfl, R_z, hb⟩
  replace R_m := hide (Rd.then_ R_m.out hb)
  replace R_T := hide (Rd.then_ R_T.out hb)
  replace R_y := hide (Rd.then_ R_y.out hb)
  replace R_d := hide (Rd.then_ R_d.out hb)
  replace R_x := hide (Rd.then_ R_x.out hb)
  have U10 : Below W.heap.size W w10 := Below.then_ U9 hb
  replace B := hide (Below.then_ B.out hb)
  replace R_z := hide R_z
  clear hb
  go_wp2
  exact bodyPost_ret (v := .tuple #[.agg #[.bool (zneg z), .slice A_z (dig (zmag z)).length c_z, .int .i64 (a.size : Int)], .int .i64 0]) (by simp [results, Tryz.results22, go_sem, c_r00 _ U10, c_r01 _ U10, c_r02 _ U10]) rfl (RetDec.box B.out (by omega) (c_r00 _ U10) (c_r01 _ U10) (c_r02 _ U10) R_z.out)

set_option maxHeartbeats 4000000 in
theorem dparse_F_ft {w : World} {s : ByteArray}  {u b a : ByteArray} {m : Nat} (hcp : ∀ w, Calls Tryz.prog 58 #[.string s, .string ⟨#[45]⟩] w (RetB w (.tuple #[.string u, .bool false]))) (hc : ∀ w, Calls Tryz.prog 59 #[.string u, .string ⟨#[46]⟩] w (RetB w (.tuple #[.string b, .string a, .bool true]))) (hp : ∀ w, Calls Tryz.prog 60 #[.string b] w (RetPV w m 0)) (hd : ∀ w, Calls Tryz.prog 61 #[.string a] w (RetB w (.bool true))) {d : Nat} {z : Int} (ha : a.size ≤ 9) (had : ∀ k, k < a.size → 48 ≤ bt a k ∧ bt a k ≤ 57) (hv : dvp a a.size = d) (hm : (dig m).length ≤ 400) (hz2 : iv false (m * 10 ^ a.size + d) = z) :
    Calls Tryz.prog 22 #[.string s] w (RetDec w z (a.size : Int) 0) := by
  replace hcp := hide hcp
  replace hc := hide hc
  replace hp := hide hp
  replace hd := hide hd
  have ha' : decide ((9 : Int) < (a.size : Int)) = false := decide_eq_false (by omega)
  obtain ⟨T, e_T⟩ : ∃ new, 10 ^ a.size = new := ⟨_, rfl⟩
  replace e_T := hide e_T
  have lT : T < pw 1 := by rw [← e_T.out]; exact Nat.lt_of_le_of_lt (Nat.pow_le_pow_right (by omega) ha) (by decide)
  have lv : d < 10 ^ 9 := by rw [← hv]; exact Nat.lt_of_lt_of_le (dvp_lt had) (Nat.pow_le_pow_right (by omega) ha)
  have lv2 : d < 18446744073709551616 := Nat.lt_trans lv (by decide)
  replace lv2 := hide lv2
  obtain ⟨y, e_y⟩ : ∃ new, val (dig m) * val (dig T) = new := ⟨_, rfl⟩
  replace e_y := hide e_y
  have lm' := len_pw hm
  have ly := mul_pw e_y.out lm' lT
  have g1 : (dig m).length + (dig T).length ≤ 70368744177664 := by have := dl lT; omega
  replace g1 := hide g1
  obtain ⟨x, e_x⟩ : ∃ new, val (dig y) + val (dig d) = new := ⟨_, rfl⟩
  replace e_x := hide e_x
  have g2 : (dig y).length + 1 ≤ 70368744177664 := by have := dl ly; omega
  replace g2 := hide g2
  have g3 : (dig d).length + 1 ≤ 70368744177664 := by have := dl (show d < pw 1 from Nat.lt_trans lv (by decide)); omega
  replace g3 := hide g3
  have e_z : iv false (val (dig x)) = z := by rw [val_dig, ← e_x.out, val_dig, val_dig, ← e_y.out, val_dig, val_dig, ← e_T.out]; exact hz2
  replace e_z := hide e_z
  clear lT lv lm' ly hz2
  replace ha := hide ha
  replace had := hide had
  replace hv := hide hv
  replace hm := hide hm
  obtain ⟨W, hW⟩ : ∃ W, W = (w.alloc (.cells #[.bool false, .slice none 0 0, .int .i64 0] 29)) := ⟨_, rfl⟩
  have b_r0 : BoxD W (w.heap.size) (.bool false) (.slice none 0 0) (.int .i64 0) := by rw [hW]; exact (BoxD.new w _ _ _ rfl)
  have hwW : Below w.heap.size w W := by rw [hW]; exact ((Below.refl _ _).alloc (Nat.le_refl _) _)
  have B := hide hwW
  clear hwW
  have U0 : Below W.heap.size W W := Below.refl _ _
  have c_r00 := b_r0.at0 b_r0.lt_size (Nat.le_refl _)
  have c_r01 := b_r0.at1 b_r0.lt_size (Nat.le_refl _)
  have c_r02 := b_r0.at2 b_r0.lt_size (Nat.le_refl _)
  have f_r00 := b_r0.free0 b_r0.lt_size (Nat.le_refl _)
  have f_r01 := b_r0.free1 b_r0.lt_size (Nat.le_refl _)
  have f_r02 := b_r0.free2 b_r0.lt_size (Nat.le_refl _)
  have l_r0 := b_r0.lt b_r0.lt_size (Nat.le_refl _)
  replace b_r0 := hide b_r0
  go_enter Tryz.func22, Tryz.ntmps22
  go_wp2_with fail
  rw [← hW]
  clear hW
  refine (hcp.out _).mono ?_
  rintro e w1 ⟨rfl, hb⟩
  have U1 : Below W.heap.size W w1 := Below.then_ U0 hb
  replace B := hide (Below.then_ B.out hb)
  clear hb
  go_wp2_with fail
  refine (hc.out _).mono ?_
  rintro e w2 ⟨rfl, hb⟩
  have U2 : Below W.heap.size W w2 := Below.then_ U1 hb
  replace B := hide (Below.then_ B.out hb)
  clear hb
  go_wp2_with fail
  refine (hp.out _).mono ?_
  rintro e w3 ⟨A_m, c_m, rfl, R_m, hb⟩
  have U3 : Below W.heap.size W w3 := Below.then_ U2 hb
  replace B := hide (Below.then_ B.out hb)
  replace R_m := hide R_m
  clear hb
  go_wp2_with fail
  refine (hd.out _).mono ?_
  rintro e w4 ⟨rfl, hb⟩
  replace R_m := hide (Rd.then_ R_m.out hb)
  have U4 : Below W.heap.size W w4 := Below.then_ U3 hb
  replace B := hide (Below.then_ B.out hb)
  clear hb
  go_wp2_with fail
  refine (scale_any ha.out e_T.out).mono ?_
  rintro e w5 ⟨A_T, c_T, rfl, R_T, hb⟩
  replace R_m := hide (Rd.then_ R_m.out hb)
  have U5 : Below W.heap.size W w5 := Below.then_ U4 hb
  replace B := hide (Below.then_ B.out hb)
  replace R_T := hide R_T
  clear hb
  go_wp2_with fail
  refine (mul_any _ _ _ _ _ _ _ _ _ _ R_m.out R_T.out (Nat.le_refl _) g1.out).mono ?_
  rw [e_y.out]
  rintro e w6 ⟨A_y, c_y, rfl, R_y, hb⟩
  replace R_m := hide (Rd.then_ R_m.out hb)
  replace R_T := hide (Rd.then_ R_T.out hb)
  have U6 : Below W.heap.size W w6 := Below.then_ U5 hb
  replace B := hide (Below.then_ B.out hb)
  replace R_y := hide R_y
  clear hb
  go_wp2_with fail
  refine (dvalue_any ha.out had.out hv.out _).mono ?_
  rintro e w7 ⟨rfl, hb⟩
  replace R_m := hide (Rd.then_ R_m.out hb)
  replace R_T := hide (Rd.then_ R_T.out hb)
  replace R_y := hide (Rd.then_ R_y.out hb)
  have U7 : Below W.heap.size W w7 := Below.then_ U6 hb
  replace B := hide (Below.then_ B.out hb)
  clear hb
  go_wp2_with fail
  refine (of_any _ d lv2.out).mono ?_
  rintro e w8 ⟨A_d, c_d, rfl, R_d, hb⟩
  replace R_m := hide (Rd.then_ R_m.out hb)
  replace R_T := hide (Rd.then_ R_T.out hb)
  replace R_y := hide (Rd.then_ R_y.out hb)
  have U8 : Below W.heap.size W w8 := Below.then_ U7 hb
  replace B := hide (Below.then_ B.out hb)
  replace R_d := hide R_d
  clear hb
  go_wp2_with fail
  refine (add_any _ _ _ _ _ _ _ _ _ _ R_y.out R_d.out (Nat.le_refl _) g2.out g3.out).mono ?_
  rw [e_x.out]
  rintro e w9 ⟨A_x, c_x, rfl, R_x, hb⟩
  replace R_m := hide (Rd.then_ R_m.out hb)
  replace R_T := hide (Rd.then_ R_T.out hb)
  replace R_y := hide (Rd.then_ R_y.out hb)
  replace R_d := hide (Rd.then_ R_d.out hb)
  have U9 : Below W.heap.size W w9 := Below.then_ U8 hb
  replace B := hide (Below.then_ B.out hb)
  replace R_x := hide R_x
  clear hb
  go_wp2_with fail
  refine (imake_any _ _ _ _ _ _ _ R_x.out (Nat.le_refl _)).mono ?_
  rw [e_z.out]
  rintro e w10 ⟨A_z, c_z, rfl, R_z, hb⟩
  replace R_m := hide (Rd.then_ R_m.out hb)
  replace R_T := hide (Rd.then_ R_T.out hb)
  replace R_y := hide (Rd.then_ R_y.out hb)
  replace R_d := hide (Rd.then_ R_d.out hb)
  replace R_x := hide (Rd.then_ R_x.out hb)
  have U10 : Below W.heap.size W w10 := Below.then_ U9 hb
  replace B := hide (Below.then_ B.out hb)
  replace R_z := hide R_z
  clear hb
  go_wp2
  exact bodyPost_ret (v := .tuple #[.agg #[.bool (zneg z), .slice A_z (dig (zmag z)).length c_z, .int .i64 (a.size : Int)], .int .i64 0]) (by simp [results, Tryz.results22, go_sem, c_r00 _ U10, c_r01 _ U10, c_r02 _ U10]) rfl (RetDec.box B.out (by omega) (c_r00 _ U10) (c_r01 _ U10) (c_r02 _ U10) R_z.out)

set_option maxHeartbeats 4000000 in
theorem dparse_F_ff {w : World} {s : ByteArray}  {u b a : ByteArray} {m : Nat} (hcp : ∀ w, Calls Tryz.prog 58 #[.string s, .string ⟨#[45]⟩] w (RetB w (.tuple #[.string u, .bool false]))) (hc : ∀ w, Calls Tryz.prog 59 #[.string u, .string ⟨#[46]⟩] w (RetB w (.tuple #[.string b, .string a, .bool false]))) (hp : ∀ w, Calls Tryz.prog 60 #[.string b] w (RetPV w m 0)) {d : Nat} {z : Int} (ha : a.size ≤ 9) (had : ∀ k, k < a.size → 48 ≤ bt a k ∧ bt a k ≤ 57) (hv : dvp a a.size = d) (hm : (dig m).length ≤ 400) (hz2 : iv false (m * 10 ^ a.size + d) = z) :
    Calls Tryz.prog 22 #[.string s] w (RetDec w z (a.size : Int) 0) := by
  replace hcp := hide hcp
  replace hc := hide hc
  replace hp := hide hp
  have ha' : decide ((9 : Int) < (a.size : Int)) = false := decide_eq_false (by omega)
  obtain ⟨T, e_T⟩ : ∃ new, 10 ^ a.size = new := ⟨_, rfl⟩
  replace e_T := hide e_T
  have lT : T < pw 1 := by rw [← e_T.out]; exact Nat.lt_of_le_of_lt (Nat.pow_le_pow_right (by omega) ha) (by decide)
  have lv : d < 10 ^ 9 := by rw [← hv]; exact Nat.lt_of_lt_of_le (dvp_lt had) (Nat.pow_le_pow_right (by omega) ha)
  have lv2 : d < 18446744073709551616 := Nat.lt_trans lv (by decide)
  replace lv2 := hide lv2
  obtain ⟨y, e_y⟩ : ∃ new, val (dig m) * val (dig T) = new := ⟨_, rfl⟩
  replace e_y := hide e_y
  have lm' := len_pw hm
  have ly := mul_pw e_y.out lm' lT
  have g1 : (dig m).length + (dig T).length ≤ 70368744177664 := by have := dl lT; omega
  replace g1 := hide g1
  obtain ⟨x, e_x⟩ : ∃ new, val (dig y) + val (dig d) = new := ⟨_, rfl⟩
  replace e_x := hide e_x
  have g2 : (dig y).length + 1 ≤ 70368744177664 := by have := dl ly; omega
  replace g2 := hide g2
  have g3 : (dig d).length + 1 ≤ 70368744177664 := by have := dl (show d < pw 1 from Nat.lt_trans lv (by decide)); omega
  replace g3 := hide g3
  have e_z : iv false (val (dig x)) = z := by rw [val_dig, ← e_x.out, val_dig, val_dig, ← e_y.out, val_dig, val_dig, ← e_T.out]; exact hz2
  replace e_z := hide e_z
  clear lT lv lm' ly hz2
  replace ha := hide ha
  replace had := hide had
  replace hv := hide hv
  replace hm := hide hm
  obtain ⟨W, hW⟩ : ∃ W, W = (w.alloc (.cells #[.bool false, .slice none 0 0, .int .i64 0] 29)) := ⟨_, rfl⟩
  have b_r0 : BoxD W (w.heap.size) (.bool false) (.slice none 0 0) (.int .i64 0) := by rw [hW]; exact (BoxD.new w _ _ _ rfl)
  have hwW : Below w.heap.size w W := by rw [hW]; exact ((Below.refl _ _).alloc (Nat.le_refl _) _)
  have B := hide hwW
  clear hwW
  have U0 : Below W.heap.size W W := Below.refl _ _
  have c_r00 := b_r0.at0 b_r0.lt_size (Nat.le_refl _)
  have c_r01 := b_r0.at1 b_r0.lt_size (Nat.le_refl _)
  have c_r02 := b_r0.at2 b_r0.lt_size (Nat.le_refl _)
  have f_r00 := b_r0.free0 b_r0.lt_size (Nat.le_refl _)
  have f_r01 := b_r0.free1 b_r0.lt_size (Nat.le_refl _)
  have f_r02 := b_r0.free2 b_r0.lt_size (Nat.le_refl _)
  have l_r0 := b_r0.lt b_r0.lt_size (Nat.le_refl _)
  replace b_r0 := hide b_r0
  go_enter Tryz.func22, Tryz.ntmps22
  go_wp2_with fail
  rw [← hW]
  clear hW
  refine (hcp.out _).mono ?_
  rintro e w1 ⟨rfl, hb⟩
  have U1 : Below W.heap.size W w1 := Below.then_ U0 hb
  replace B := hide (Below.then_ B.out hb)
  clear hb
  go_wp2_with fail
  refine (hc.out _).mono ?_
  rintro e w2 ⟨rfl, hb⟩
  have U2 : Below W.heap.size W w2 := Below.then_ U1 hb
  replace B := hide (Below.then_ B.out hb)
  clear hb
  go_wp2_with fail
  refine (hp.out _).mono ?_
  rintro e w3 ⟨A_m, c_m, rfl, R_m, hb⟩
  have U3 : Below W.heap.size W w3 := Below.then_ U2 hb
  replace B := hide (Below.then_ B.out hb)
  replace R_m := hide R_m
  clear hb
  go_wp2_with fail
  refine (scale_any ha.out e_T.out).mono ?_
  rintro e w4 ⟨A_T, c_T, rfl, R_T, hb⟩
  replace R_m := hide (Rd.then_ R_m.out hb)
  have U4 : Below W.heap.size W w4 := Below.then_ U3 hb
  replace B := hide (Below.then_ B.out hb)
  replace R_T := hide R_T
  clear hb
  go_wp2_with fail
  refine (mul_any _ _ _ _ _ _ _ _ _ _ R_m.out R_T.out (Nat.le_refl _) g1.out).mono ?_
  rw [e_y.out]
  rintro e w5 ⟨A_y, c_y, rfl, R_y, hb⟩
  replace R_m := hide (Rd.then_ R_m.out hb)
  replace R_T := hide (Rd.then_ R_T.out hb)
  have U5 : Below W.heap.size W w5 := Below.then_ U4 hb
  replace B := hide (Below.then_ B.out hb)
  replace R_y := hide R_y
  clear hb
  go_wp2_with fail
  refine (dvalue_any ha.out had.out hv.out _).mono ?_
  rintro e w6 ⟨rfl, hb⟩
  replace R_m := hide (Rd.then_ R_m.out hb)
  replace R_T := hide (Rd.then_ R_T.out hb)
  replace R_y := hide (Rd.then_ R_y.out hb)
  have U6 : Below W.heap.size W w6 := Below.then_ U5 hb
  replace B := hide (Below.then_ B.out hb)
  clear hb
  go_wp2_with fail
  refine (of_any _ d lv2.out).mono ?_
  rintro e w7 ⟨A_d, c_d, rfl, R_d, hb⟩
  replace R_m := hide (Rd.then_ R_m.out hb)
  replace R_T := hide (Rd.then_ R_T.out hb)
  replace R_y := hide (Rd.then_ R_y.out hb)
  have U7 : Below W.heap.size W w7 := Below.then_ U6 hb
  replace B := hide (Below.then_ B.out hb)
  replace R_d := hide R_d
  clear hb
  go_wp2_with fail
  refine (add_any _ _ _ _ _ _ _ _ _ _ R_y.out R_d.out (Nat.le_refl _) g2.out g3.out).mono ?_
  rw [e_x.out]
  rintro e w8 ⟨A_x, c_x, rfl, R_x, hb⟩
  replace R_m := hide (Rd.then_ R_m.out hb)
  replace R_T := hide (Rd.then_ R_T.out hb)
  replace R_y := hide (Rd.then_ R_y.out hb)
  replace R_d := hide (Rd.then_ R_d.out hb)
  have U8 : Below W.heap.size W w8 := Below.then_ U7 hb
  replace B := hide (Below.then_ B.out hb)
  replace R_x := hide R_x
  clear hb
  go_wp2_with fail
  refine (imake_any _ _ _ _ _ _ _ R_x.out (Nat.le_refl _)).mono ?_
  rw [e_z.out]
  rintro e w9 ⟨A_z, c_z, rfl, R_z, hb⟩
  replace R_m := hide (Rd.then_ R_m.out hb)
  replace R_T := hide (Rd.then_ R_T.out hb)
  replace R_y := hide (Rd.then_ R_y.out hb)
  replace R_d := hide (Rd.then_ R_d.out hb)
  replace R_x := hide (Rd.then_ R_x.out hb)
  have U9 : Below W.heap.size W w9 := Below.then_ U8 hb
  replace B := hide (Below.then_ B.out hb)
  replace R_z := hide R_z
  clear hb
  go_wp2
  exact bodyPost_ret (v := .tuple #[.agg #[.bool (zneg z), .slice A_z (dig (zmag z)).length c_z, .int .i64 (a.size : Int)], .int .i64 0]) (by simp [results, Tryz.results22, go_sem, c_r00 _ U9, c_r01 _ U9, c_r02 _ U9]) rfl (RetDec.box B.out (by omega) (c_r00 _ U9) (c_r01 _ U9) (c_r02 _ U9) R_z.out)
end

section
open Go.RowKit


theorem size_list (s : ByteArray) : s.size = s.data.toList.length := by rw [Array.length_toList]; rfl
theorem app_size (a b : ByteArray) : (a ++ b).size = a.size + b.size := by rw [size_list, size_list, size_list, Joins.data_append, List.length_append]

set_option maxHeartbeats 4000000 in
theorem dprint_bad {w : World} {Bd : Nat} {A_d : Option Addr} {n_d c_d : Nat} {x_d : List Nat} {s_d : Bool} {p_d : Int} (h_d : Rd w Bd A_d n_d c_d x_d) (_g_d : n_d ≤ 1000000000) (hB : Bd ≤ w.heap.size) (hp : ¬ (0 ≤ p_d ∧ p_d ≤ 9)) :
    Calls Tryz.prog 23 #[.agg #[.bool s_d, .slice A_d n_d c_d, .int .i64 p_d]] w (RetB w (.tuple #[.string ⟨#[]⟩, .int .i64 3])) := by
  replace hp := hide hp
  obtain ⟨W, hW⟩ : ∃ W, W = (w.alloc (.cells #[.bool s_d, .slice A_d n_d c_d, .int .i64 p_d] 29)) := ⟨_, rfl⟩
  have b_d : BoxD W (w.heap.size) (.bool s_d) (.slice A_d n_d c_d) (.int .i64 p_d) := by rw [hW]; exact (BoxD.new w _ _ _ rfl)
  have hwW : Below w.heap.size w W := by rw [hW]; exact ((Below.refl _ _).alloc (Nat.le_refl _) _)
  have R_d := hide (Rd.upto h_d hwW hB)
  clear h_d
  have B := hide hwW
  clear hwW
  clear hB
  have U0 : Below W.heap.size W W := Below.refl _ _
  have c_d0 := b_d.at0 b_d.lt_size (Nat.le_refl _)
  have c_d1 := b_d.at1 b_d.lt_size (Nat.le_refl _)
  have c_d2 := b_d.at2 b_d.lt_size (Nat.le_refl _)
  replace b_d := hide b_d
  go_enter Tryz.func23, Tryz.ntmps23
  go_wp2_with fail
  rw [← hW]
  clear hW
  refine (isplaces_no hp.out).mono ?_
  rintro e w1 ⟨rfl, hb⟩
  replace R_d := hide (Rd.then_ R_d.out hb)
  have U1 : Below W.heap.size W w1 := Below.then_ U0 hb
  replace B := hide (Below.then_ B.out hb)
  clear hb
  go_wp2
  go_ret2
  exact ⟨rfl, B.out⟩

set_option maxHeartbeats 4000000 in
theorem dprint_tt {w : World} {Bd : Nat} {A_d : Option Addr} {n_d c_d : Nat} {x_d : List Nat} {s_d : Bool} {p_d : Int} (h_d : Rd w Bd A_d n_d c_d x_d) (g_d : n_d ≤ 1000000000) (hB : Bd ≤ w.heap.size) {p k N : Nat} {zs D dg t : ByteArray} (hp : p_d = (p : Int)) (h9 : p ≤ 9) (hp0 : 0 < p) (hzs : zstr (iv s_d (val x_d)) = zs) (hcp : ∀ w, Calls Tryz.prog 58 #[.string zs, .string ⟨#[45]⟩] w (RetB w (.tuple #[.string D, .bool true]))) (hD : D.size ≤ 1000000000000) (hk : p + 1 - D.size = k) (hdg : strN (zeros k) ++ D = dg) (hN : dg.size = N + p) (ht : (⟨#[45]⟩ : ByteArray) ++ (dg.extract 0 N ++ ((⟨#[46]⟩ : ByteArray) ++ dg.extract N (N + p))) = t) :
    Calls Tryz.prog 23 #[.agg #[.bool s_d, .slice A_d n_d c_d, .int .i64 p_d]] w (RetB w (.tuple #[.string t, .int .i64 0])) := by
  subst hp
  have hk10 : k ≤ 10 := by omega
  have hZ : (strN (zeros k)).size = k := by rw [strN_size]; exact List.length_replicate
  have hdz : k + D.size = N + p := by rw [← hN, ← hdg, app_size, hZ]
  have hrep : ∀ n : Int, n = (k : Int) → ∀ w, Calls Tryz.prog 68 #[.string ⟨#[48]⟩, .int .i64 n] w (RetB w (.string (strN (zeros k)))) := fun n h w => repeat_any h hk10 w
  replace hrep := hide hrep
  obtain ⟨Z, e_Z⟩ : ∃ Z, strN (zeros k) = Z := ⟨_, rfl⟩
  rw [e_Z] at hdg hZ hrep
  clear e_Z
  have hs1 : ¬ 9223372036854775807 < Z.size + D.size := by omega
  have f0 : (0 : Int) ≤ (p : Int) := by omega
  replace f0 := hide f0
  have f9 : (p : Int) ≤ 9 := by omega
  replace f9 := hide f9
  have hp1 : decide ((0 : Int) < (p : Int)) = true := by simp; omega
  replace hzs := hide hzs
  replace hcp := hide hcp
  replace ht := hide ht
  have gd : n_d ≤ 17592186044416 := by omega
  replace gd := hide gd
  obtain ⟨W, hW⟩ : ∃ W, W = (w.alloc (.cells #[.bool s_d, .slice A_d n_d c_d, .int .i64 (p : Int)] 29)) := ⟨_, rfl⟩
  have b_d : BoxD W (w.heap.size) (.bool s_d) (.slice A_d n_d c_d) (.int .i64 (p : Int)) := by rw [hW]; exact (BoxD.new w _ _ _ rfl)
  have hwW : Below w.heap.size w W := by rw [hW]; exact ((Below.refl _ _).alloc (Nat.le_refl _) _)
  have R_d := hide (Rd.upto h_d hwW hB)
  clear h_d
  have B := hide hwW
  clear hwW
  clear hB
  have U0 : Below W.heap.size W W := Below.refl _ _
  have c_d0 := b_d.at0 b_d.lt_size (Nat.le_refl _)
  have c_d1 := b_d.at1 b_d.lt_size (Nat.le_refl _)
  have c_d2 := b_d.at2 b_d.lt_size (Nat.le_refl _)
  replace b_d := hide b_d
  go_enter Tryz.func23, Tryz.ntmps23
  go_wp2_with fail
  rw [← hW]
  clear hW
  refine (isplaces_yes f0.out f9.out).mono ?_
  rintro e w1 ⟨rfl, hb⟩
  replace R_d := hide (Rd.then_ R_d.out hb)
  have U1 : Below W.heap.size W w1 := Below.then_ U0 hb
  replace B := hide (Below.then_ B.out hb)
  clear hb
  go_wp2_with fail
  refine (iprint_any _ _ _ _ _ _ _ R_d.out (Nat.le_refl _) gd.out).mono ?_
  rw [hzs.out]
  rintro e w2 ⟨rfl, hb⟩
  replace R_d := hide (Rd.then_ R_d.out hb)
  have U2 : Below W.heap.size W w2 := Below.then_ U1 hb
  replace B := hide (Below.then_ B.out hb)
  clear hb
  go_wp2_with fail
  refine (hcp.out _).mono ?_
  rintro e w3 ⟨rfl, hb⟩
  replace R_d := hide (Rd.then_ R_d.out hb)
  have U3 : Below W.heap.size W w3 := Below.then_ U2 hb
  replace B := hide (Below.then_ B.out hb)
  clear hb
  go_wp2_with fail
  go_wp2_with fail
  refine (hrep.out _ (by omega) _).mono ?_
  rintro e w4 ⟨rfl, hb⟩
  replace R_d := hide (Rd.then_ R_d.out hb)
  have U4 : Below W.heap.size W w4 := Below.then_ U3 hb
  replace B := hide (Below.then_ B.out hb)
  clear hb
  go_wp2
  rw [ht.out]
  go_ret2
  exact ⟨rfl, B.out⟩

set_option maxHeartbeats 4000000 in
theorem dprint_tf {w : World} {Bd : Nat} {A_d : Option Addr} {n_d c_d : Nat} {x_d : List Nat} {s_d : Bool} {p_d : Int} (h_d : Rd w Bd A_d n_d c_d x_d) (g_d : n_d ≤ 1000000000) (hB : Bd ≤ w.heap.size) {p k N : Nat} {zs D dg t : ByteArray} (hp : p_d = (p : Int)) (h9 : p ≤ 9) (hp0 : p = 0) (hzs : zstr (iv s_d (val x_d)) = zs) (hcp : ∀ w, Calls Tryz.prog 58 #[.string zs, .string ⟨#[45]⟩] w (RetB w (.tuple #[.string D, .bool true]))) (hD : D.size ≤ 1000000000000) (hk : p + 1 - D.size = k) (hdg : strN (zeros k) ++ D = dg) (hN : dg.size = N + p) (ht : (⟨#[45]⟩ : ByteArray) ++ dg.extract 0 N = t) :
    Calls Tryz.prog 23 #[.agg #[.bool s_d, .slice A_d n_d c_d, .int .i64 p_d]] w (RetB w (.tuple #[.string t, .int .i64 0])) := by
  subst hp
  have hk10 : k ≤ 10 := by omega
  have hZ : (strN (zeros k)).size = k := by rw [strN_size]; exact List.length_replicate
  have hdz : k + D.size = N + p := by rw [← hN, ← hdg, app_size, hZ]
  have hrep : ∀ n : Int, n = (k : Int) → ∀ w, Calls Tryz.prog 68 #[.string ⟨#[48]⟩, .int .i64 n] w (RetB w (.string (strN (zeros k)))) := fun n h w => repeat_any h hk10 w
  replace hrep := hide hrep
  obtain ⟨Z, e_Z⟩ : ∃ Z, strN (zeros k) = Z := ⟨_, rfl⟩
  rw [e_Z] at hdg hZ hrep
  clear e_Z
  have hs1 : ¬ 9223372036854775807 < Z.size + D.size := by omega
  have f0 : (0 : Int) ≤ (p : Int) := by omega
  replace f0 := hide f0
  have f9 : (p : Int) ≤ 9 := by omega
  replace f9 := hide f9
  have hp1 : ¬ 0 < p := by omega
  replace hp0 := hide hp0
  replace hzs := hide hzs
  replace hcp := hide hcp
  replace ht := hide ht
  have gd : n_d ≤ 17592186044416 := by omega
  replace gd := hide gd
  obtain ⟨W, hW⟩ : ∃ W, W = (w.alloc (.cells #[.bool s_d, .slice A_d n_d c_d, .int .i64 (p : Int)] 29)) := ⟨_, rfl⟩
  have b_d : BoxD W (w.heap.size) (.bool s_d) (.slice A_d n_d c_d) (.int .i64 (p : Int)) := by rw [hW]; exact (BoxD.new w _ _ _ rfl)
  have hwW : Below w.heap.size w W := by rw [hW]; exact ((Below.refl _ _).alloc (Nat.le_refl _) _)
  have R_d := hide (Rd.upto h_d hwW hB)
  clear h_d
  have B := hide hwW
  clear hwW
  clear hB
  have U0 : Below W.heap.size W W := Below.refl _ _
  have c_d0 := b_d.at0 b_d.lt_size (Nat.le_refl _)
  have c_d1 := b_d.at1 b_d.lt_size (Nat.le_refl _)
  have c_d2 := b_d.at2 b_d.lt_size (Nat.le_refl _)
  replace b_d := hide b_d
  go_enter Tryz.func23, Tryz.ntmps23
  go_wp2_with fail
  rw [← hW]
  clear hW
  refine (isplaces_yes f0.out f9.out).mono ?_
  rintro e w1 ⟨rfl, hb⟩
  replace R_d := hide (Rd.then_ R_d.out hb)
  have U1 : Below W.heap.size W w1 := Below.then_ U0 hb
  replace B := hide (Below.then_ B.out hb)
  clear hb
  go_wp2_with fail
  refine (iprint_any _ _ _ _ _ _ _ R_d.out (Nat.le_refl _) gd.out).mono ?_
  rw [hzs.out]
  rintro e w2 ⟨rfl, hb⟩
  replace R_d := hide (Rd.then_ R_d.out hb)
  have U2 : Below W.heap.size W w2 := Below.then_ U1 hb
  replace B := hide (Below.then_ B.out hb)
  clear hb
  go_wp2_with fail
  refine (hcp.out _).mono ?_
  rintro e w3 ⟨rfl, hb⟩
  replace R_d := hide (Rd.then_ R_d.out hb)
  have U3 : Below W.heap.size W w3 := Below.then_ U2 hb
  replace B := hide (Below.then_ B.out hb)
  clear hb
  go_wp2_with fail
  go_wp2_with fail
  refine (hrep.out _ (by omega) _).mono ?_
  rintro e w4 ⟨rfl, hb⟩
  replace R_d := hide (Rd.then_ R_d.out hb)
  have U4 : Below W.heap.size W w4 := Below.then_ U3 hb
  replace B := hide (Below.then_ B.out hb)
  clear hb
  go_wp2
  rw [ht.out]
  go_ret2
  exact ⟨rfl, B.out⟩

set_option maxHeartbeats 4000000 in
theorem dprint_ft {w : World} {Bd : Nat} {A_d : Option Addr} {n_d c_d : Nat} {x_d : List Nat} {s_d : Bool} {p_d : Int} (h_d : Rd w Bd A_d n_d c_d x_d) (g_d : n_d ≤ 1000000000) (hB : Bd ≤ w.heap.size) {p k N : Nat} {zs D dg t : ByteArray} (hp : p_d = (p : Int)) (h9 : p ≤ 9) (hp0 : 0 < p) (hzs : zstr (iv s_d (val x_d)) = zs) (hcp : ∀ w, Calls Tryz.prog 58 #[.string zs, .string ⟨#[45]⟩] w (RetB w (.tuple #[.string D, .bool false]))) (hD : D.size ≤ 1000000000000) (hk : p + 1 - D.size = k) (hdg : strN (zeros k) ++ D = dg) (hN : dg.size = N + p) (ht : (dg.extract 0 N ++ ((⟨#[46]⟩ : ByteArray) ++ dg.extract N (N + p))) = t) :
    Calls Tryz.prog 23 #[.agg #[.bool s_d, .slice A_d n_d c_d, .int .i64 p_d]] w (RetB w (.tuple #[.string t, .int .i64 0])) := by
  subst hp
  have hk10 : k ≤ 10 := by omega
  have hZ : (strN (zeros k)).size = k := by rw [strN_size]; exact List.length_replicate
  have hdz : k + D.size = N + p := by rw [← hN, ← hdg, app_size, hZ]
  have hrep : ∀ n : Int, n = (k : Int) → ∀ w, Calls Tryz.prog 68 #[.string ⟨#[48]⟩, .int .i64 n] w (RetB w (.string (strN (zeros k)))) := fun n h w => repeat_any h hk10 w
  replace hrep := hide hrep
  obtain ⟨Z, e_Z⟩ : ∃ Z, strN (zeros k) = Z := ⟨_, rfl⟩
  rw [e_Z] at hdg hZ hrep
  clear e_Z
  have hs1 : ¬ 9223372036854775807 < Z.size + D.size := by omega
  have f0 : (0 : Int) ≤ (p : Int) := by omega
  replace f0 := hide f0
  have f9 : (p : Int) ≤ 9 := by omega
  replace f9 := hide f9
  have hp1 : decide ((0 : Int) < (p : Int)) = true := by simp; omega
  replace hzs := hide hzs
  replace hcp := hide hcp
  replace ht := hide ht
  have gd : n_d ≤ 17592186044416 := by omega
  replace gd := hide gd
  obtain ⟨W, hW⟩ : ∃ W, W = (w.alloc (.cells #[.bool s_d, .slice A_d n_d c_d, .int .i64 (p : Int)] 29)) := ⟨_, rfl⟩
  have b_d : BoxD W (w.heap.size) (.bool s_d) (.slice A_d n_d c_d) (.int .i64 (p : Int)) := by rw [hW]; exact (BoxD.new w _ _ _ rfl)
  have hwW : Below w.heap.size w W := by rw [hW]; exact ((Below.refl _ _).alloc (Nat.le_refl _) _)
  have R_d := hide (Rd.upto h_d hwW hB)
  clear h_d
  have B := hide hwW
  clear hwW
  clear hB
  have U0 : Below W.heap.size W W := Below.refl _ _
  have c_d0 := b_d.at0 b_d.lt_size (Nat.le_refl _)
  have c_d1 := b_d.at1 b_d.lt_size (Nat.le_refl _)
  have c_d2 := b_d.at2 b_d.lt_size (Nat.le_refl _)
  replace b_d := hide b_d
  go_enter Tryz.func23, Tryz.ntmps23
  go_wp2_with fail
  rw [← hW]
  clear hW
  refine (isplaces_yes f0.out f9.out).mono ?_
  rintro e w1 ⟨rfl, hb⟩
  replace R_d := hide (Rd.then_ R_d.out hb)
  have U1 : Below W.heap.size W w1 := Below.then_ U0 hb
  replace B := hide (Below.then_ B.out hb)
  clear hb
  go_wp2_with fail
  refine (iprint_any _ _ _ _ _ _ _ R_d.out (Nat.le_refl _) gd.out).mono ?_
  rw [hzs.out]
  rintro e w2 ⟨rfl, hb⟩
  replace R_d := hide (Rd.then_ R_d.out hb)
  have U2 : Below W.heap.size W w2 := Below.then_ U1 hb
  replace B := hide (Below.then_ B.out hb)
  clear hb
  go_wp2_with fail
  refine (hcp.out _).mono ?_
  rintro e w3 ⟨rfl, hb⟩
  replace R_d := hide (Rd.then_ R_d.out hb)
  have U3 : Below W.heap.size W w3 := Below.then_ U2 hb
  replace B := hide (Below.then_ B.out hb)
  clear hb
  go_wp2_with fail
  go_wp2_with fail
  refine (hrep.out _ (by omega) _).mono ?_
  rintro e w4 ⟨rfl, hb⟩
  replace R_d := hide (Rd.then_ R_d.out hb)
  have U4 : Below W.heap.size W w4 := Below.then_ U3 hb
  replace B := hide (Below.then_ B.out hb)
  clear hb
  go_wp2
  rw [ht.out]
  go_ret2
  exact ⟨rfl, B.out⟩

set_option maxHeartbeats 4000000 in
theorem dprint_ff {w : World} {Bd : Nat} {A_d : Option Addr} {n_d c_d : Nat} {x_d : List Nat} {s_d : Bool} {p_d : Int} (h_d : Rd w Bd A_d n_d c_d x_d) (g_d : n_d ≤ 1000000000) (hB : Bd ≤ w.heap.size) {p k N : Nat} {zs D dg t : ByteArray} (hp : p_d = (p : Int)) (h9 : p ≤ 9) (hp0 : p = 0) (hzs : zstr (iv s_d (val x_d)) = zs) (hcp : ∀ w, Calls Tryz.prog 58 #[.string zs, .string ⟨#[45]⟩] w (RetB w (.tuple #[.string D, .bool false]))) (hD : D.size ≤ 1000000000000) (hk : p + 1 - D.size = k) (hdg : strN (zeros k) ++ D = dg) (hN : dg.size = N + p) (ht : dg.extract 0 N = t) :
    Calls Tryz.prog 23 #[.agg #[.bool s_d, .slice A_d n_d c_d, .int .i64 p_d]] w (RetB w (.tuple #[.string t, .int .i64 0])) := by
  subst hp
  have hk10 : k ≤ 10 := by omega
  have hZ : (strN (zeros k)).size = k := by rw [strN_size]; exact List.length_replicate
  have hdz : k + D.size = N + p := by rw [← hN, ← hdg, app_size, hZ]
  have hrep : ∀ n : Int, n = (k : Int) → ∀ w, Calls Tryz.prog 68 #[.string ⟨#[48]⟩, .int .i64 n] w (RetB w (.string (strN (zeros k)))) := fun n h w => repeat_any h hk10 w
  replace hrep := hide hrep
  obtain ⟨Z, e_Z⟩ : ∃ Z, strN (zeros k) = Z := ⟨_, rfl⟩
  rw [e_Z] at hdg hZ hrep
  clear e_Z
  have hs1 : ¬ 9223372036854775807 < Z.size + D.size := by omega
  have f0 : (0 : Int) ≤ (p : Int) := by omega
  replace f0 := hide f0
  have f9 : (p : Int) ≤ 9 := by omega
  replace f9 := hide f9
  have hp1 : ¬ 0 < p := by omega
  replace hp0 := hide hp0
  replace hzs := hide hzs
  replace hcp := hide hcp
  replace ht := hide ht
  have gd : n_d ≤ 17592186044416 := by omega
  replace gd := hide gd
  obtain ⟨W, hW⟩ : ∃ W, W = (w.alloc (.cells #[.bool s_d, .slice A_d n_d c_d, .int .i64 (p : Int)] 29)) := ⟨_, rfl⟩
  have b_d : BoxD W (w.heap.size) (.bool s_d) (.slice A_d n_d c_d) (.int .i64 (p : Int)) := by rw [hW]; exact (BoxD.new w _ _ _ rfl)
  have hwW : Below w.heap.size w W := by rw [hW]; exact ((Below.refl _ _).alloc (Nat.le_refl _) _)
  have R_d := hide (Rd.upto h_d hwW hB)
  clear h_d
  have B := hide hwW
  clear hwW
  clear hB
  have U0 : Below W.heap.size W W := Below.refl _ _
  have c_d0 := b_d.at0 b_d.lt_size (Nat.le_refl _)
  have c_d1 := b_d.at1 b_d.lt_size (Nat.le_refl _)
  have c_d2 := b_d.at2 b_d.lt_size (Nat.le_refl _)
  replace b_d := hide b_d
  go_enter Tryz.func23, Tryz.ntmps23
  go_wp2_with fail
  rw [← hW]
  clear hW
  refine (isplaces_yes f0.out f9.out).mono ?_
  rintro e w1 ⟨rfl, hb⟩
  replace R_d := hide (Rd.then_ R_d.out hb)
  have U1 : Below W.heap.size W w1 := Below.then_ U0 hb
  replace B := hide (Below.then_ B.out hb)
  clear hb
  go_wp2_with fail
  refine (iprint_any _ _ _ _ _ _ _ R_d.out (Nat.le_refl _) gd.out).mono ?_
  rw [hzs.out]
  rintro e w2 ⟨rfl, hb⟩
  replace R_d := hide (Rd.then_ R_d.out hb)
  have U2 : Below W.heap.size W w2 := Below.then_ U1 hb
  replace B := hide (Below.then_ B.out hb)
  clear hb
  go_wp2_with fail
  refine (hcp.out _).mono ?_
  rintro e w3 ⟨rfl, hb⟩
  replace R_d := hide (Rd.then_ R_d.out hb)
  have U3 : Below W.heap.size W w3 := Below.then_ U2 hb
  replace B := hide (Below.then_ B.out hb)
  clear hb
  go_wp2_with fail
  go_wp2_with fail
  refine (hrep.out _ (by omega) _).mono ?_
  rintro e w4 ⟨rfl, hb⟩
  replace R_d := hide (Rd.then_ R_d.out hb)
  have U4 : Below W.heap.size W w4 := Below.then_ U3 hb
  replace B := hide (Below.then_ B.out hb)
  clear hb
  go_wp2
  rw [ht.out]
  go_ret2
  exact ⟨rfl, B.out⟩
end

section
open Go.RowKit

/-- the digits of m, with so many zeros in front that p places can be parted off -/
def dgl (m p : Nat) : List Nat := zeros (p + 1 - (dec m).length) ++ dec m
/-- digits that can be parted -/
def NF (p : Nat) (l : List Nat) : Prop := (∀ b ∈ l, 48 ≤ b ∧ b ≤ 57) ∧ p + 1 ≤ l.length ∧ (l.length = p + 1 ∨ lm l 0 ≠ 48)
theorem zeros_len (k : Nat) : (zeros k).length = k := List.length_replicate
theorem zeros_succ (k : Nat) : zeros (k + 1) = 48 :: zeros k := rfl
theorem lm_head (a : Nat) (r : List Nat) : lm (a :: r) 0 = a := rfl
theorem fold_dv (l : List Nat) : ∀ v : Nat, l.foldl (fun v b => v * 10 + (b - 48)) v = v * 10 ^ l.length + dvL l := by
  induction l with
  | nil => intro v; simp [dvL]
  | cons x r ih =>
    intro v
    have h1 := ih (v * 10 + (x - 48))
    have h2 := ih (0 * 10 + (x - 48))
    rw [List.foldl_cons, h1, List.length_cons, Nat.pow_succ]
    have h3 : dvL (x :: r) = (0 * 10 + (x - 48)) * 10 ^ r.length + dvL r := by rw [← h2]; rfl
    rw [h3, Nat.add_mul, Nat.zero_mul, Nat.zero_add, Nat.mul_assoc v, Nat.mul_comm (10 ^ r.length) 10]
    omega
theorem dvL_append (a b : List Nat) : dvL (a ++ b) = dvL a * 10 ^ b.length + dvL b := by
  unfold dvL
  rw [List.foldl_append]
  exact fold_dv b _
theorem dvL_zeros (k : Nat) (l : List Nat) : dvL (zeros k ++ l) = dvL l := by
  induction k with
  | zero => rfl
  | succ k ih => rw [zeros_succ]; exact ih
theorem dvL_dgl (m p : Nat) : dvL (dgl m p) = m := by unfold dgl; rw [dvL_zeros, dvL_dec]
theorem zeros_mem {k b : Nat} (h : b ∈ zeros k) : b = 48 := List.eq_of_mem_replicate h
theorem dgl_nf (m p : Nat) : NF p (dgl m p) := by
  have hp := dec_pos m
  refine ⟨fun b hb => ?_, ?_, ?_⟩
  · unfold dgl at hb
    rcases List.mem_append.1 hb with h | h
    · rw [zeros_mem h]; omega
    · exact dec_byte m b h
  · unfold dgl; rw [List.length_append, zeros_len]; omega
  · unfold dgl
    rw [List.length_append, zeros_len]
    by_cases hk : p + 1 - (dec m).length = 0
    · rw [hk]
      rcases dec_one m with h | h
      · exact Or.inl (by omega)
      · exact Or.inr h
    · exact Or.inl (by omega)
theorem strip (l : List Nat) : ∃ j l', l = zeros j ++ l' ∧ (l' = [] ∨ (l' ≠ [] ∧ lm l' 0 ≠ 48)) := by
  induction l with
  | nil => exact ⟨0, [], rfl, Or.inl rfl⟩
  | cons a r ih =>
    by_cases ha : a = 48
    · obtain ⟨j, l', h, h2⟩ := ih
      exact ⟨j + 1, l', by rw [zeros_succ, ha, h]; rfl, h2⟩
    · exact ⟨0, a :: r, rfl, Or.inr ⟨by simp, ha⟩⟩
theorem dgl_dvL {p : Nat} {l : List Nat} (h : NF p l) : dgl (dvL l) p = l := by
  obtain ⟨hd, hl, h1⟩ := h
  obtain ⟨j, l', rfl, h2⟩ := strip l
  rw [dvL_zeros]
  rw [List.length_append, zeros_len] at hl h1
  rcases h2 with rfl | ⟨hne, h0⟩
  · have hj : j = p + 1 := by
      rcases h1 with h | h
      · simpa using h
      · exfalso
        obtain ⟨i, rfl⟩ : ∃ i, j = i + 1 := ⟨j - 1, by simp at hl; omega⟩
        exact h rfl
    subst hj
    unfold dgl
    show zeros (p + 1 - 1) ++ [48] = zeros (p + 1) ++ []
    rw [List.append_nil, Nat.add_sub_cancel]
    exact List.replicate_succ'.symm
  · obtain ⟨e1, e2⟩ := ddig_dvL _ l' rfl (fun b hb => hd b (by simp [hb])) hne h0
    have e3 : dec (dvL l') = l' := by unfold dec; rw [if_neg e2, e1]
    unfold dgl
    rw [e3]
    congr 2
    rcases Nat.eq_zero_or_pos j with rfl | hj
    · omega
    · obtain ⟨i, rfl⟩ : ∃ i, j = i + 1 := ⟨j - 1, by omega⟩
      rcases h1 with h | h
      · omega
      · exact absurd rfl h

theorem strN_append (a b : List Nat) : strN (a ++ b) = strN a ++ strN b := by
  apply bytes_ext
  rw [Joins.data_append]
  simp [strN, strOfNums]
theorem strN_take (l : List Nat) (n : Nat) : (strN l).extract 0 n = strN (l.take n) := by
  apply bytes_ext
  rw [ByteArray.data_extract, Array.toList_extract, List.extract_eq_take_drop]
  simp [strN, strOfNums, List.map_take]
theorem strN_drop (l : List Nat) {n k : Nat} (h : k = l.length) : (strN l).extract n k = strN (l.drop n) := by
  subst h
  apply bytes_ext
  rw [ByteArray.data_extract, Array.toList_extract, List.extract_eq_take_drop]
  simp only [strN, strOfNums, List.map_map, List.map_drop]
  rw [List.take_of_length_le (by simp)]
theorem digits_256 {l : List Nat} (h : ∀ b ∈ l, 48 ≤ b ∧ b ≤ 57) : ∀ b ∈ l, b < 256 := fun b hb => by have := h b hb; omega
theorem strN_digit {l : List Nat} (h : ∀ b ∈ l, 48 ≤ b ∧ b ≤ 57) : ∀ k, k < (strN l).size → 48 ≤ bt (strN l) k ∧ bt (strN l) k ≤ 57 := fun k hk => by
  rw [strN_size] at hk
  rw [strN_get (digits_256 h) hk, lm_get hk]
  exact h _ (List.getElem_mem hk)
theorem bts_digit {s : ByteArray} (h : ∀ k, k < s.size → 48 ≤ bt s k ∧ bt s k ≤ 57) : ∀ b ∈ bts s, 48 ≤ b ∧ b ≤ 57 := fun b hb => by
  obtain ⟨k, hk, e⟩ := List.getElem_of_mem hb
  rw [bts_len] at hk
  have := h k hk
  rw [← bts_lm hk, lm_get (by rw [bts_len]; exact hk), e] at this
  exact this
theorem dvp_bts (s : ByteArray) : dvp s s.size = dvL (bts s) := by
  have := dvp_strN (bts_lt s) (Nat.le_refl (bts s).length)
  rw [strN_bts, List.take_length, bts_len] at this
  exact this
theorem dvp_all {l : List Nat} (h : ∀ b ∈ l, 48 ≤ b ∧ b ≤ 57) : dvp (strN l) (strN l).size = dvL l := by
  rw [strN_size, dvp_strN (digits_256 h) (Nat.le_refl _), List.take_length]

/-- what Print writes -/
def dlist (z : Int) (p : Nat) : List Nat := (if z < 0 then [45] else []) ++ ((dgl (zmag z) p).take ((dgl (zmag z) p).length - p) ++ (if p = 0 then [] else 46 :: (dgl (zmag z) p).drop ((dgl (zmag z) p).length - p)))
def dstr (z : Int) (p : Nat) : ByteArray := strN (dlist z p)
theorem minus_str : (⟨#[45]⟩ : ByteArray) = strN [45] := by kernel_rfl
theorem point_str : (⟨#[46]⟩ : ByteArray) = strN [46] := by kernel_rfl
theorem empty_str : (⟨#[]⟩ : ByteArray) = strN [] := by kernel_rfl
theorem lead_minus {l : List Nat} : strN (45 :: l) = (⟨#[45]⟩ : ByteArray) ++ strN l := by rw [minus_str, ← strN_append]; rfl
theorem lead_point {l : List Nat} : strN (46 :: l) = (⟨#[46]⟩ : ByteArray) ++ strN l := by rw [point_str, ← strN_append]; rfl
theorem cutp_yes {s : ByteArray} (hs : s.size ≤ 9223372036854775807) (h0 : 0 < s.size) (h1 : bt s 0 = 45) {u : ByteArray} (hu : s.extract 1 s.size = u) (w : World) :
    Calls Tryz.prog 58 #[.string s, .string ⟨#[45]⟩] w (RetB w (.tuple #[.string u, .bool true])) :=
  (cut_yes w s hs h0 h1).mono fun e w' ⟨h2, h3⟩ => ⟨by rw [h2, hu], by rw [← h3]; exact Below.refl _ _⟩
theorem cutp_no {s : ByteArray} (hs : s.size ≤ 9223372036854775807) (h1 : s.size = 0 ∨ bt s 0 ≠ 45) (w : World) :
    Calls Tryz.prog 58 #[.string s, .string ⟨#[45]⟩] w (RetB w (.tuple #[.string s, .bool false])) :=
  (cut_no w s hs h1).mono fun e w' ⟨h2, h3⟩ => ⟨h2, by rw [← h3]; exact Below.refl _ _⟩
theorem dprint_any {w : World} {Bd : Nat} {A_d : Option Addr} {n_d c_d : Nat} {x_d : List Nat} {s_d : Bool} {p : Nat} {z : Int} (h_d : Rd w Bd A_d n_d c_d x_d) (g_d : n_d ≤ 1000000000) (hB : Bd ≤ w.heap.size) (h9 : p ≤ 9) (hz : iv s_d (val x_d) = z) :
    Calls Tryz.prog 23 #[.agg #[.bool s_d, .slice A_d n_d c_d, .int .i64 (p : Int)]] w (RetB w (.tuple #[.string (dstr z p), .int .i64 0])) := by
  have lz : zmag z < pw n_d := by rw [← hz]; exact zl_iv h_d.lt
  have hD : (strN (dec (zmag z))).size ≤ 1000000000000 := by rw [strN_size]; have := dec_len lz; omega
  have nf := dgl_nf (zmag z) p
  have hN : (strN (dgl (zmag z) p)).size = (dgl (zmag z) p).length - p + p := by rw [strN_size]; have := nf.2.1; omega
  have hdg : strN (zeros (p + 1 - (strN (dec (zmag z))).size)) ++ strN (dec (zmag z)) = strN (dgl (zmag z) p) := by rw [strN_size]; exact (strN_append _ _).symm
  have e1 := strN_take (dgl (zmag z) p) ((dgl (zmag z) p).length - p)
  have e2 : (strN (dgl (zmag z) p)).extract ((dgl (zmag z) p).length - p) ((dgl (zmag z) p).length - p + p) = strN ((dgl (zmag z) p).drop ((dgl (zmag z) p).length - p)) := strN_drop _ (by have := nf.2.1; omega)
  have zn : (zstr z).size ≤ 1 + (strN (dec (zmag z))).size := by rw [strN_size]; exact zstr_size z
  by_cases hn : z < 0
  · have hzs : zstr z = (⟨#[45]⟩ : ByteArray) ++ strN (dec (zmag z)) := by unfold zstr; rw [if_pos hn]
    have hcp : ∀ w, Calls Tryz.prog 58 #[.string (zstr z), .string ⟨#[45]⟩] w (RetB w (.tuple #[.string (strN (dec (zmag z))), .bool true])) := fun w =>
      cutp_yes (by omega) (by rw [hzs, minus_size]; omega) (by rw [hzs]; exact minus_first _) (by rw [hzs]; exact minus_rest _) w
    by_cases hp : p = 0
    · exact dprint_tf h_d g_d hB rfl h9 hp (congrArg zstr hz) hcp hD rfl hdg hN (by unfold dstr dlist; rw [if_pos hn, if_pos hp, List.append_nil, e1]; exact lead_minus.symm)
    · exact dprint_tt h_d g_d hB rfl h9 (by omega) (congrArg zstr hz) hcp hD rfl hdg hN (by unfold dstr dlist; rw [if_pos hn, if_neg hp, e1, e2, ← lead_point, ← strN_append]; exact lead_minus.symm)
  · have hzs : zstr z = strN (dec (zmag z)) := by unfold zstr; rw [if_neg hn]
    have hcp : ∀ w, Calls Tryz.prog 58 #[.string (zstr z), .string ⟨#[45]⟩] w (RetB w (.tuple #[.string (strN (dec (zmag z))), .bool false])) := fun w => by
      rw [hzs]
      refine cutp_no (by omega) (Or.inr ?_) w
      have h1 := dec_isNum (zmag z)
      have := h1.1 0 h1.2.1
      omega
    by_cases hp : p = 0
    · exact dprint_ff h_d g_d hB rfl h9 hp (congrArg zstr hz) hcp hD rfl hdg hN (by unfold dstr dlist; rw [if_neg hn, if_pos hp, List.append_nil, e1]; rfl)
    · exact dprint_ft h_d g_d hB rfl h9 (by omega) (congrArg zstr hz) hcp hD rfl hdg hN (by unfold dstr dlist; rw [if_neg hn, if_neg hp, e1, e2, ← lead_point, ← strN_append]; rfl)
end

section
open Go.RowKit

section
variable {s u b a : ByteArray} {neg pt : Bool}
  (hcp : ∀ w, Calls Tryz.prog 58 #[.string s, .string ⟨#[45]⟩] w (RetB w (.tuple #[.string u, .bool neg])))
  (hc : ∀ w, Calls Tryz.prog 59 #[.string u, .string ⟨#[46]⟩] w (RetB w (.tuple #[.string b, .string a, .bool pt])))
include hcp hc
theorem dpA {m : Nat} (hp : ∀ w, Calls Tryz.prog 60 #[.string b] w (RetPV w m 2)) (w : World) : Calls Tryz.prog 22 #[.string s] w (RetDec w 0 0 2) := by
  cases neg <;> cases pt
  · exact dparse_A_ff hcp hc hp
  · exact dparse_A_ft hcp hc hp
  · exact dparse_A_tf hcp hc hp
  · exact dparse_A_tt hcp hc hp
theorem dpB {m : Nat} {k : Int} (hk : (k == 2) = false) (hp : ∀ w, Calls Tryz.prog 60 #[.string b] w (RetPV w m k)) (hpt : pt = true) (hd : ∀ w, Calls Tryz.prog 61 #[.string a] w (RetB w (.bool false))) (w : World) :
    Calls Tryz.prog 22 #[.string s] w (RetDec w 0 0 2) := by
  subst hpt
  cases neg
  · exact dparse_B_ft hcp hc hk hp hd
  · exact dparse_B_tt hcp hc hk hp hd
theorem dpC {m : Nat} {k : Int} (hk : (k == 2) = false) (hp : ∀ w, Calls Tryz.prog 60 #[.string b] w (RetPV w m k)) (hd : pt = true → ∀ w, Calls Tryz.prog 61 #[.string a] w (RetB w (.bool true))) (hn : neg = true)
    (hz : ∀ w, Calls Tryz.prog 62 #[.string u] w (RetB w (.bool true))) (w : World) : Calls Tryz.prog 22 #[.string s] w (RetDec w 0 0 2) := by
  subst hn
  cases pt
  · exact dparse_C_tf hcp hc hk hp hz
  · exact dparse_C_tt hcp hc hk hp (hd rfl) hz
theorem dpD {m : Nat} {k : Int} (hk : (k == 2) = false) (hk0 : (k != 0) = true) (hp : ∀ w, Calls Tryz.prog 60 #[.string b] w (RetPV w m k)) (hd : pt = true → ∀ w, Calls Tryz.prog 61 #[.string a] w (RetB w (.bool true)))
    (hz : neg = true → ∀ w, Calls Tryz.prog 62 #[.string u] w (RetB w (.bool false))) (w : World) : Calls Tryz.prog 22 #[.string s] w (RetDec w 0 0 5) := by
  cases neg <;> cases pt
  · exact dparse_D_ff hcp hc hk hk0 hp
  · exact dparse_D_ft hcp hc hk hk0 hp (hd rfl)
  · exact dparse_D_tf hcp hc hk hk0 hp (hz rfl)
  · exact dparse_D_tt hcp hc hk hk0 hp (hd rfl) (hz rfl)
theorem dpE {m : Nat} (hp : ∀ w, Calls Tryz.prog 60 #[.string b] w (RetPV w m 0)) (hd : pt = true → ∀ w, Calls Tryz.prog 61 #[.string a] w (RetB w (.bool true)))
    (hz : neg = true → ∀ w, Calls Tryz.prog 62 #[.string u] w (RetB w (.bool false))) (ha : 9 < a.size) (w : World) : Calls Tryz.prog 22 #[.string s] w (RetDec w 0 0 5) := by
  cases neg <;> cases pt
  · exact dparse_E_ff hcp hc hp ha
  · exact dparse_E_ft hcp hc hp (hd rfl) ha
  · exact dparse_E_tf hcp hc hp (hz rfl) ha
  · exact dparse_E_tt hcp hc hp (hd rfl) (hz rfl) ha
theorem dpF {m d : Nat} {z : Int} (hp : ∀ w, Calls Tryz.prog 60 #[.string b] w (RetPV w m 0)) (hd : pt = true → ∀ w, Calls Tryz.prog 61 #[.string a] w (RetB w (.bool true)))
    (hz : neg = true → ∀ w, Calls Tryz.prog 62 #[.string u] w (RetB w (.bool false))) (ha : a.size ≤ 9) (had : ∀ k, k < a.size → 48 ≤ bt a k ∧ bt a k ≤ 57) (hv : dvp a a.size = d) (hm : (dig m).length ≤ 400) (hz2 : iv neg (m * 10 ^ a.size + d) = z) (w : World) :
    Calls Tryz.prog 22 #[.string s] w (RetDec w z (a.size : Int) 0) := by
  cases neg <;> cases pt
  · exact dparse_F_ff hcp hc hp ha had hv hm hz2
  · exact dparse_F_ft hcp hc hp (hd rfl) ha had hv hm hz2
  · exact dparse_F_tf hcp hc hp (hz rfl) ha had hv hm hz2
  · exact dparse_F_tt hcp hc hp (hd rfl) (hz rfl) ha had hv hm hz2
end
/-- the notation's parts -/
def joined (neg pt : Bool) (b a : ByteArray) : ByteArray := (if neg then ⟨#[45]⟩ else ⟨#[]⟩) ++ (b ++ (if pt then ⟨#[46]⟩ ++ a else ⟨#[]⟩))
theorem allz_val {l : List Nat} (hd : ∀ b ∈ l, 48 ≤ b ∧ b ≤ 57) (h : dvL l = 0) : ∀ b ∈ l, b = 48 := by
  obtain ⟨j, l', rfl, h2⟩ := strip l
  rw [dvL_zeros] at h
  rcases h2 with rfl | ⟨hne, h0⟩
  · intro b hb; rw [List.append_nil] at hb; exact zeros_mem hb
  · exact absurd h (ddig_dvL _ l' rfl (fun b hb => hd b (by simp [hb])) hne h0).2
theorem bts_app (x y : ByteArray) : bts (x ++ y) = bts x ++ bts y := by unfold bts; rw [Joins.data_append, List.map_append]
theorem allz_bts {s : ByteArray} : AllZ s ↔ ∀ b ∈ bts s, b = 48 ∨ b = 46 := by
  constructor
  · intro h b hb
    obtain ⟨k, hk, e⟩ := List.getElem_of_mem hb
    rw [bts_len] at hk
    have := h k hk
    rw [← bts_lm hk, lm_get (by rw [bts_len]; exact hk), e] at this
    exact this
  · intro h k hk
    rw [← bts_lm hk, lm_get (by rw [bts_len]; exact hk)]
    exact h _ (List.getElem_mem _)
/-- the printed form of what is parsed -/
theorem dstr_of {neg pt : Bool} {b a u : ByteArray} {z : Int} (hb : IsNum b) (ha : ∀ k, k < a.size → 48 ≤ bt a k ∧ bt a k ≤ 57) (hpt : pt = false ↔ a.size = 0) (hu : u = b ++ (if pt then ⟨#[46]⟩ ++ a else ⟨#[]⟩)) (hnz : neg = true → ¬ AllZ u)
    (hz : iv neg (dvp b b.size * 10 ^ a.size + dvp a a.size) = z) : dstr z a.size = (if neg then ⟨#[45]⟩ else ⟨#[]⟩) ++ u := by
  have hB := bts_digit hb.1
  have hA := bts_digit ha
  have hd : ∀ x ∈ bts b ++ bts a, 48 ≤ x ∧ x ≤ 57 := fun x hx => by
    rcases List.mem_append.1 hx with h | h
    · exact hB x h
    · exact hA x h
  have hval : dvp b b.size * 10 ^ a.size + dvp a a.size = dvL (bts b ++ bts a) := by rw [dvL_append, bts_len, dvp_bts, dvp_bts]
  rw [hval] at hz
  have nf : NF a.size (bts b ++ bts a) := by
    refine ⟨hd, ?_, ?_⟩
    · rw [List.length_append, bts_len, bts_len]; have := hb.2.1; omega
    · rw [List.length_append, bts_len, bts_len]
      rcases hb.2.2 with h | h
      · exact Or.inl (by omega)
      · refine Or.inr ?_
        rw [lm_append, if_pos (by rw [bts_len]; exact hb.2.1), bts_lm hb.2.1]
        exact h
  have hneg : z < 0 ↔ neg = true := by
    rw [← hz]
    cases neg
    · rw [iv_false]; constructor
      · intro h; omega
      · intro h; cases h
    · rw [iv_true]
      have h0 : dvL (bts b ++ bts a) ≠ 0 := fun h => by
        refine hnz rfl (allz_bts.2 fun x hx => ?_)
        have hz := allz_val hd h
        rw [hu, bts_app] at hx
        rcases List.mem_append.1 hx with h1 | h1
        · exact Or.inl (hz x (by simp [h1]))
        · cases pt
          · exact absurd h1 (by simp [bts])
          · rw [if_pos rfl, bts_app] at h1
            rcases List.mem_append.1 h1 with h2 | h2
            · exact Or.inr (by simpa [bts] using h2)
            · exact Or.inl (hz x (by simp [h2]))
      constructor
      · intro _; rfl
      · intro _; omega
  have hmag : zmag z = dvL (bts b ++ bts a) := by rw [← hz, zmag_iv]
  have hlen : (bts b ++ bts a).length - a.size = (bts b).length := by rw [List.length_append, bts_len a]; omega
  unfold dstr dlist
  rw [hmag, dgl_dvL nf, hlen, List.take_left, List.drop_left, strN_append, strN_append, strN_bts, hu]
  congr 1
  · cases neg
    · rw [if_neg (fun h => by have := hneg.1 h; cases this)]; exact empty_str.symm
    · rw [if_pos (hneg.2 rfl)]; exact minus_str.symm
  · congr 1
    cases pt
    · rw [if_pos (hpt.1 rfl)]; exact empty_str.symm
    · rw [if_neg (fun h => by have := hpt.2 h; cases this), lead_point, strN_bts]; rfl
theorem nat_p (t : ByteArray) (hs : t.size ≤ 9223372036854775807) : ∃ (m : Nat) (k : Int), (∀ w, Calls Tryz.prog 60 #[.string t] w (RetPV w m k)) ∧ (k = 0 → IsNum t ∧ m = dvp t t.size) ∧ (k = 0 ∨ k = 2 ∨ k = 5) ∧ (dig m).length ≤ 400 := by
  by_cases h : IsNum t
  · by_cases hl : t.size ≤ 400
    · exact ⟨dvp t t.size, 0, fun w => parse_ok w t h hl, fun _ => ⟨h, rfl⟩, Or.inl rfl, par_len h hl⟩
    · exact ⟨0, 5, fun w => (parse_long w t hs h (by omega)).mono fun _ _ => RetErr.pv, fun h => by omega, Or.inr (Or.inr rfl), by rw [dig_zero]; simp⟩
  · exact ⟨0, 2, fun w => (parse_syntax w t hs h).mono fun _ _ => RetErr.pv, fun h => by omega, Or.inr (Or.inl rfl), by rw [dig_zero]; simp⟩
theorem dec_pw {m T d i : Nat} (h1 : m < pw i) (h2 : T < pw 1) (h3 : d < pw 1) : (dig (m * T + d)).length ≤ i + 2 :=
  dl (pw_le (by omega) (lt_add (lt_mul h1 h2) h3))
theorem dec_num_len {z : Int} {m d p : Nat} {neg : Bool} (hm : (dig m).length ≤ 400) (hp : p ≤ 9) (hd : d < 10 ^ p) (hz : iv neg (m * 10 ^ p + d) = z) : (dig (zmag z)).length ≤ 402 := by
  have h2 : 10 ^ p < pw 1 := Nat.lt_of_le_of_lt (Nat.pow_le_pow_right (by omega) hp) (by decide)
  have h := dec_pw (len_pw hm) h2 (Nat.lt_trans hd h2)
  rw [← hz, zmag_iv]
  omega
theorem bts_strN {l : List Nat} (h : ∀ b ∈ l, b < 256) : bts (strN l) = l := by
  unfold bts strN strOfNums
  simp only [List.map_map]
  conv => rhs; rw [← List.map_id l]
  refine List.map_congr_left fun b hb => ?_
  simp [Nat.mod_eq_of_lt (h b hb)]
theorem par_in {s u : ByteArray} {neg : Bool} (hsz : u.size ≤ 9223372036854775807) (hcp : ∀ w, Calls Tryz.prog 58 #[.string s, .string ⟨#[45]⟩] w (RetB w (.tuple #[.string u, .bool neg]))) {pt : Bool} {b a : ByteArray} (hu : u = b ++ (if pt then ⟨#[46]⟩ ++ a else ⟨#[]⟩)) (hbs : b.size ≤ u.size) (has : a.size ≤ u.size) (hpa : pt = false → a.size = 0)
    (hc : ∀ w, Calls Tryz.prog 59 #[.string u, .string ⟨#[46]⟩] w (RetB w (.tuple #[.string b, .string a, .bool pt]))) :
    ∃ (z p k : Int), (∀ w, Calls Tryz.prog 22 #[.string s] w (RetDec w z p k)) ∧ (dig (zmag z)).length ≤ 402 ∧ (k = 0 → ∃ n : Nat, p = (n : Int) ∧ n ≤ 9 ∧ dstr z n = (if neg then ⟨#[45]⟩ else ⟨#[]⟩) ++ u) := by
  have l0 : (dig (zmag 0)).length ≤ 402 := by rw [show zmag 0 = 0 from rfl, dig_zero]; simp
  obtain ⟨m, k, hp, hk0, hk3, hm⟩ := nat_p b (by omega)
  by_cases h2 : k = 2
  · subst h2
    exact ⟨0, 0, 2, dpA hcp hc hp, l0, fun h => by omega⟩
  have hk2 : (k == 2) = false := by simpa using h2
  by_cases hdg : AllD a
  all_goals have hdig := fun (b : Bool) (h : b = true ↔ AllD a) => digits_any (s := a) (by omega) h
  case neg =>
    cases pt
    case true => exact ⟨0, 0, 2, dpB hcp hc hk2 hp rfl (hdig false (by simp [hdg])), l0, fun h => by omega⟩
    have ha0 := hpa rfl
    by_cases hz : neg = true ∧ AllZ u
    · exact ⟨0, 0, 2, dpC hcp hc hk2 hp (fun h => by cases h) hz.1 (iszero_any hsz (by simp [hz.2])), l0, fun h => by omega⟩
    · have hzz : neg = true → ∀ w, Calls Tryz.prog 62 #[.string u] w (RetB w (.bool false)) := fun h => iszero_any hsz (by simp; exact fun h2 => hz ⟨h, h2⟩)
      by_cases hk : k = 0
      · subst hk
        obtain ⟨hn, rfl⟩ := hk0 rfl
        have had : ∀ k, k < a.size → 48 ≤ bt a k ∧ bt a k ≤ 57 := fun k hk => by omega
        exact ⟨_, (a.size : Int), 0, dpF hcp hc hp (fun h => by cases h) hzz (by omega) had rfl hm rfl, dec_num_len hm (by omega) (dvp_lt had) rfl, fun _ => ⟨a.size, rfl, by omega, dstr_of hn had (by simp [ha0]) hu (fun h h2 => hz ⟨h, h2⟩) rfl⟩⟩
      · exact ⟨0, 0, 5, dpD hcp hc hk2 (by simpa using hk) hp (fun h => by cases h) hzz, l0, fun h => by omega⟩
  case pos =>
    have hpt : pt = true := by
      cases pt
      · have := hpa rfl; have := hdg.2; omega
      · rfl
    have hd := hdig true (by simp [hdg])
    by_cases hz : neg = true ∧ AllZ u
    · exact ⟨0, 0, 2, dpC hcp hc hk2 hp (fun _ => hd) hz.1 (iszero_any hsz (by simp [hz.2])), l0, fun h => by omega⟩
    · have hzz : neg = true → ∀ w, Calls Tryz.prog 62 #[.string u] w (RetB w (.bool false)) := fun h => iszero_any hsz (by simp; exact fun h2 => hz ⟨h, h2⟩)
      by_cases hk : k = 0
      · subst hk
        obtain ⟨hn, rfl⟩ := hk0 rfl
        by_cases ha9 : a.size ≤ 9
        · exact ⟨_, (a.size : Int), 0, dpF hcp hc hp (fun _ => hd) hzz ha9 hdg.1 rfl hm rfl, dec_num_len hm ha9 (dvp_lt hdg.1) rfl, fun _ => ⟨a.size, rfl, ha9, dstr_of hn hdg.1 ⟨fun h => (by rw [hpt] at h; cases h), fun h => (by have := hdg.2; omega)⟩ hu (fun h h2 => hz ⟨h, h2⟩) rfl⟩⟩
        · exact ⟨0, 0, 5, dpE hcp hc hp (fun _ => hd) hzz (by omega), l0, fun h => by omega⟩
      · exact ⟨0, 0, 5, dpD hcp hc hk2 (by simpa using hk) hp (fun _ => hd) hzz, l0, fun h => by omega⟩
theorem app_empty (x : ByteArray) : x ++ (⟨#[]⟩ : ByteArray) = x := by apply bytes_ext; rw [Joins.data_append]; simp
theorem empty_app (x : ByteArray) : (⟨#[]⟩ : ByteArray) ++ x = x := by apply bytes_ext; rw [Joins.data_append]; simp
theorem dot_join {u : ByteArray} {i : Nat} (h : DotAt u i) : u = u.extract 0 i ++ ((⟨#[46]⟩ : ByteArray) ++ u.extract (i + 1) u.size) := by
  obtain ⟨hi, hb, _⟩ := h
  have e : u = strN (bts u) := (strN_bts u).symm
  have hl := bts_len u
  have h1 : u.extract 0 i = strN ((bts u).take i) := by rw [← strN_take, strN_bts]
  have h2 : u.extract (i + 1) u.size = strN ((bts u).drop (i + 1)) := by rw [← strN_drop (bts u) hl.symm, strN_bts]
  rw [h1, h2, ← lead_point, ← strN_append]
  have h3 : (bts u).drop i = 46 :: (bts u).drop (i + 1) := by
    rw [List.drop_eq_getElem_cons (by omega), ← lm_get (by omega), bts_lm hi, hb]
  rw [← h3, List.take_append_drop]
  exact e
/-- Parse at any string -/
theorem par_dec (s : ByteArray) (hs : s.size ≤ 9223372036854775807) :
    ∃ (z p k : Int), (∀ w, Calls Tryz.prog 22 #[.string s] w (RetDec w z p k)) ∧ (dig (zmag z)).length ≤ 402 ∧ (k = 0 → ∃ n : Nat, p = (n : Int) ∧ n ≤ 9 ∧ dstr z n = s) := by
  have main : ∀ (u : ByteArray) (neg : Bool), u.size ≤ 9223372036854775807 → (if neg then ⟨#[45]⟩ else ⟨#[]⟩) ++ u = s → (∀ w, Calls Tryz.prog 58 #[.string s, .string ⟨#[45]⟩] w (RetB w (.tuple #[.string u, .bool neg]))) →
      ∃ (z p k : Int), (∀ w, Calls Tryz.prog 22 #[.string s] w (RetDec w z p k)) ∧ (dig (zmag z)).length ≤ 402 ∧ (k = 0 → ∃ n : Nat, p = (n : Int) ∧ n ≤ 9 ∧ dstr z n = s) := by
    intro u neg hu hj hcp
    rcases dot_cases u with h | ⟨i, h⟩
    · have hc := dotcut_any (dcut_miss h)
      have r := par_in (pt := false) (a := ⟨#[]⟩) hu hcp (by simp [app_empty]) (Nat.le_refl _) (Nat.zero_le _) (fun _ => rfl) hc
      rw [hj] at r
      exact r
    · have hc := dotcut_any (dcut_hit hu h)
      have r := par_in (pt := true) hu hcp (dot_join h) (by rw [size_ext (by have := h.1; omega)]; have := h.1; omega) (by rw [size_ext (Nat.le_refl _)]; omega) (fun h => by cases h) hc
      rw [hj] at r
      exact r
  by_cases h : 0 < s.size ∧ bt s 0 = 45
  · exact main _ true (by rw [size_ext (Nat.le_refl _)]; omega) (minus_back h.1 h.2) (cutp_yes hs h.1 h.2 rfl)
  · exact main s false hs (empty_app s) (cutp_no hs (by omega))
/-- Parse of what is printed -/
theorem par_dstr {z : Int} {p : Nat} (h9 : p ≤ 9) (hs : (dstr z p).size ≤ 400) (w : World) : Calls Tryz.prog 22 #[.string (dstr z p)] w (RetDec w z (p : Int) 0) := by
  have nf := dgl_nf (zmag z) p
  have hval := dvL_dgl (zmag z) p
  obtain ⟨L, hL⟩ : ∃ L, dgl (zmag z) p = L := ⟨_, rfl⟩
  obtain ⟨N, hN⟩ : ∃ N, L.length - p = N := ⟨_, rfl⟩
  have hN1 : N + p = L.length := by have := nf.2.1; rw [hL] at this; omega
  have hN0 : 0 < N := by have := nf.2.1; rw [hL] at this; omega
  rw [hL] at nf hval
  have hdl : dstr z p = strN ((if z < 0 then [45] else []) ++ (L.take N ++ (if p = 0 then [] else 46 :: L.drop N))) := by unfold dstr dlist; rw [hL, hN]
  have hB : ∀ b ∈ L.take N, 48 ≤ b ∧ b ≤ 57 := fun b hb => nf.1 b (List.mem_of_mem_take hb)
  have hA : ∀ b ∈ L.drop N, 48 ≤ b ∧ b ≤ 57 := fun b hb => nf.1 b (List.mem_of_mem_drop hb)
  have hBl : (L.take N).length = N := by rw [List.length_take]; omega
  have hAl : (L.drop N).length = p := by rw [List.length_drop]; omega
  have hv : dvL (L.take N) * 10 ^ p + dvL (L.drop N) = zmag z := by rw [← hAl, ← dvL_append, List.take_append_drop, hval]
  have hnum : IsNum (strN (L.take N)) := by
    refine ⟨strN_digit hB, by rw [strN_size, hBl]; exact hN0, ?_⟩
    rw [strN_size, hBl]
    rcases nf.2.2 with h | h
    · exact Or.inl (by omega)
    · refine Or.inr ?_
      rw [strN_get (digits_256 hB) (by rw [hBl]; exact hN0), lm_take, if_pos hN0]
      exact h
  obtain ⟨u, hu⟩ : ∃ u, strN (L.take N ++ (if p = 0 then [] else 46 :: L.drop N)) = u := ⟨_, rfl⟩
  have husz : u.size ≤ 400 := by rw [← hu, strN_size]; rw [hdl, strN_size, List.length_append] at hs; omega
  have hub : ∀ x ∈ L.take N ++ (if p = 0 then [] else 46 :: L.drop N), x < 256 := fun x hx => by
    rcases List.mem_append.1 hx with h | h
    · have := hB x h; omega
    · split at h
      · cases h
      · rcases List.mem_cons.1 h with h | h
        · omega
        · have := hA x h; omega
  have hu0 : bt u 0 ≠ 45 := by
    rw [← hu, strN_get hub (by rw [List.length_append, hBl]; omega), lm_append, if_pos (by rw [hBl]; exact hN0), lm_get (by rw [hBl]; exact hN0)]
    have := hB _ (List.getElem_mem (show 0 < (L.take N).length by rw [hBl]; exact hN0))
    omega
  have hcp : ∀ w, Calls Tryz.prog 58 #[.string (dstr z p), .string ⟨#[45]⟩] w (RetB w (.tuple #[.string u, .bool (zneg z)])) := fun w => by
    by_cases hn : z < 0
    · have e : dstr z p = (⟨#[45]⟩ : ByteArray) ++ u := by rw [hdl, if_pos hn, ← hu]; exact lead_minus
      rw [e, show zneg z = true from decide_eq_true hn]
      exact cutp_yes (by rw [minus_size]; omega) (by rw [minus_size]; omega) (minus_first u) (minus_rest u) w
    · have e : dstr z p = u := by rw [hdl, if_neg hn, ← hu]; rfl
      rw [e, show zneg z = false from decide_eq_false hn]
      exact cutp_no (by omega) (Or.inr hu0) w
  have hp : ∀ w, Calls Tryz.prog 60 #[.string (strN (L.take N))] w (RetPV w (dvL (L.take N)) 0) := fun w => by
    have := parse_ok w (strN (L.take N)) hnum (by rw [strN_size, hBl]; rw [← hu, strN_size, List.length_append, hBl] at husz; omega)
    rw [dvp_all hB] at this
    exact this
  have hm : (dig (dvL (L.take N))).length ≤ 400 := by
    have := par_len hnum (by rw [strN_size, hBl]; rw [← hu, strN_size, List.length_append, hBl] at husz; omega)
    rwa [dvp_all hB] at this
  have hnz : zneg z = true → ¬ AllZ u := fun hn h => by
    have h1 : z < 0 := of_decide_eq_true hn
    have h2 : zmag z = 0 := by
      rw [← hval]
      have h3 : ∀ x ∈ L, x = 48 := fun x hx => by
        rw [← List.take_append_drop N L] at hx
        have hmem : x ∈ bts u → x = 48 ∨ x = 46 := fun hx => allz_bts.1 h x hx
        have hbu : bts u = L.take N ++ (if p = 0 then [] else 46 :: L.drop N) := by rw [← hu]; exact bts_strN hub
        rw [hbu] at hmem
        rcases List.mem_append.1 hx with h5 | h5
        · have := hB x h5; have := hmem (by simp [h5]); omega
        · have := hA x h5
          have hp0 : p ≠ 0 := fun e => by rw [e] at hAl; rw [List.length_eq_zero_iff.1 hAl] at h5; cases h5
          have := hmem (by rw [if_neg hp0]; simp [h5])
          omega
      have h4 : L = zeros L.length := List.eq_replicate_iff.2 ⟨rfl, h3⟩
      rw [h4, ← List.append_nil (zeros _), dvL_zeros]; rfl
    unfold zmag at h2; omega
  have hzz : zneg z = true → ∀ w, Calls Tryz.prog 62 #[.string u] w (RetB w (.bool false)) := fun h => iszero_any (by omega) (by simp; exact hnz h)
  by_cases hp0 : p = 0
  · have hc : ∀ w, Calls Tryz.prog 59 #[.string u, .string ⟨#[46]⟩] w (RetB w (.tuple #[.string (strN (L.take N)), .string ⟨#[]⟩, .bool false])) := by
      have e : u = strN (L.take N) := by rw [← hu, if_pos hp0, List.append_nil]
      rw [e]
      exact dotcut_any (dcut_miss fun j hj => by have := strN_digit hB j hj; omega)
    have r := dpF (z := z) (a := ⟨#[]⟩) (d := 0) hcp hc hp (fun h => by cases h) hzz (by simp [ByteArray.size]) (fun k hk => absurd hk (by simp [ByteArray.size])) rfl hm (by
      have e2 : L.drop N = [] := List.length_eq_zero_iff.1 (by omega)
      rw [hp0, e2] at hv
      show iv (zneg z) (dvL (L.take N) * 10 ^ 0 + 0) = z
      rw [show dvL (L.take N) * 10 ^ 0 + 0 = zmag z from hv]
      exact iv_eta z) w
    subst hp0
    exact r
  · have e : u = strN (L.take N) ++ ((⟨#[46]⟩ : ByteArray) ++ strN (L.drop N)) := by rw [← hu, if_neg hp0, strN_append, lead_point]
    have hdot : DotAt u N := by
      have hl : (L.take N ++ (if p = 0 then [] else 46 :: L.drop N)).length = N + (p + 1) := by rw [if_neg hp0, List.length_append, hBl, List.length_cons, hAl]
      refine ⟨by rw [← hu, strN_size, hl]; omega, ?_, fun j hj => ?_⟩
      · rw [← hu, strN_get hub (by rw [hl]; omega), lm_append, if_neg (by rw [hBl]; omega), hBl, Nat.sub_self, if_neg hp0]; rfl
      · rw [← hu, strN_get hub (by rw [hl]; omega), lm_append, if_pos (by rw [hBl]; exact hj), lm_get (by rw [hBl]; exact hj)]
        have := hB _ (List.getElem_mem (show j < (L.take N).length by rw [hBl]; exact hj))
        omega
    have e1 : u.extract 0 N = strN (L.take N) := by rw [← hu, strN_take, List.take_append_of_le_length (by rw [hBl]; exact Nat.le_refl _), List.take_of_length_le (by rw [hBl]; exact Nat.le_refl _)]
    have e2 : u.extract (N + 1) u.size = strN (L.drop N) := by
      have hsz : u.size = (L.take N ++ (if p = 0 then [] else 46 :: L.drop N)).length := by rw [← hu, strN_size]
      rw [← hu] at hsz ⊢
      rw [strN_drop _ hsz, List.drop_append, hBl, show N + 1 - N = 1 by omega, if_neg hp0, List.drop_of_length_le (by rw [hBl]; omega)]; rfl
    have hc := dotcut_any (dcut_hit (by omega) hdot)
    rw [e1, e2] at hc
    have had : ∀ k, k < (strN (L.drop N)).size → 48 ≤ bt (strN (L.drop N)) k ∧ bt (strN (L.drop N)) k ≤ 57 := strN_digit hA
    have hasz : (strN (L.drop N)).size = p := by rw [strN_size, hAl]
    have r := dpF (z := z) hcp hc hp (fun _ => digits_any (by omega) (by simp; exact ⟨had, by omega⟩)) hzz (by omega) had (dvp_all hA) hm (by rw [hasz, hv]; exact iv_eta z) w
    rw [hasz] at r
    exact r
end
end Go.Proofs.YtdlmfembnmomjaaGreatDoor
