/-
  CombinNumbers, CombinParts, CombinSubsets, CombinUnranks.
-/
import Derived.Test.YtdakfpapigieiaaLaw6
namespace Go.Proofs.Ytdakfpapigieiaa
open Go.RowKit

set_option maxHeartbeats 4000000 in
set_option maxRecDepth 100000 in
theorem numbers_walk {w : World} {n k : Int} (hi : I64 n ∧ I64 k) : Calls Try.prog 3 #[.int .i64 n, .int .i64 k] w (fun e w' => e = .returned (.bool true) ∧ Below w.heap.size w w') := by
  have B := hide (Below.refl w.heap.size w)
  obtain ⟨b, hb0⟩ : ∃ b, okI n = b := ⟨_, rfl⟩
  replace hb0 := hide hb0
  replace hi := hide hi
  go_enter Try.func3, Try.ntmps3
  go_wp2_with fail
  refine (factorial_b hb0.out).mono ?_
  rintro e w1 ⟨x_f, rfl, R_f, hb⟩
  replace B := hide (Below.then_ B.out hb)
  clear hb
  replace R_f := hide R_f
  go_wp2_with fail
  refine (rfactorial_b hb0.out).mono ?_
  rintro e w2 ⟨x_g, rfl, R_g, hb⟩
  replace R_f := hide (R_f.out.then_ hb)
  replace B := hide (Below.then_ B.out hb)
  clear hb
  replace R_g := hide R_g
  go_wp2_with fail
  refine (limbs_c R_f.out R_g.out rfl).mono ?_
  rintro e w3 ⟨rfl, hb⟩
  replace R_f := hide (R_f.out.then_ hb)
  replace R_g := hide (R_g.out.then_ hb)
  replace B := hide (Below.then_ B.out hb)
  clear hb
  clear R_f
  clear R_g
  go_wp2_with fail
  refine (choose_b hi.out hb0.out).mono ?_
  rintro e w4 ⟨x_h, rfl, R_h, hb⟩
  replace B := hide (Below.then_ B.out hb)
  clear hb
  replace R_h := hide R_h
  go_wp2_with fail
  refine (rchoose_b hi.out hb0.out).mono ?_
  rintro e w5 ⟨x_j, rfl, R_j, hb⟩
  replace R_h := hide (R_h.out.then_ hb)
  replace B := hide (Below.then_ B.out hb)
  clear hb
  replace R_j := hide R_j
  cases b
  all_goals
    go_wp2_with fail
    refine (limbs_c R_h.out R_j.out rfl).mono ?_
    rintro e w9 ⟨rfl, hb⟩
    replace B := hide (Below.then_ B.out hb)
    clear hb
    go_wp2
    go_ret
    exact ⟨rfl, B.out⟩
theorem multinomial_b {w : World} {Bd n c : Nat} {A : Option Addr} {xs : List Int} (hx : RdI w Bd A n c xs) (hB : Bd ≤ w.heap.size) {b : Bool} (h : mokB xs = b) : Calls Try.prog 16 #[.slice A n c] w (RetCB w (mltI xs) b) := by rw [← h]; exact multinomial_any hx hB
theorem rmultinomial_b {w : World} {Bd n c : Nat} {A : Option Addr} {xs : List Int} (hx : RdI w Bd A n c xs) (hB : Bd ≤ w.heap.size) {b : Bool} (h : mokB xs = b) : Calls Try.prog 17 #[.slice A n c] w (RetCB w (mltI xs) b) := by rw [← h]; exact rmultinomial_any hx hB
set_option maxHeartbeats 4000000 in
set_option maxRecDepth 100000 in
theorem parts_walk {w : World} {Bd m c : Nat} {A : Option Addr} {xs : List Int} (h_x : RdI w Bd A m c xs) (hB : Bd ≤ w.heap.size) : Calls Try.prog 4 #[.slice A m c] w (fun e w' => e = .returned (.bool true) ∧ Below w.heap.size w w') := by
  have R_x := hide (h_x.upto (Below.refl _ _) hB)
  clear h_x
  have B := hide (Below.refl w.heap.size w)
  obtain ⟨b, hb0⟩ : ∃ b, mokB xs = b := ⟨_, rfl⟩
  replace hb0 := hide hb0
  go_enter Try.func4, Try.ntmps4
  go_wp2_with fail
  refine (multinomial_b R_x.out (Nat.le_refl _) hb0.out).mono ?_
  rintro e w1 ⟨x_f, rfl, R_f, hb⟩
  replace R_x := hide (R_x.out.then_ hb)
  replace B := hide (Below.then_ B.out hb)
  clear hb
  replace R_f := hide R_f
  go_wp2_with fail
  refine (rmultinomial_b R_x.out (Nat.le_refl _) hb0.out).mono ?_
  rintro e w2 ⟨x_g, rfl, R_g, hb⟩
  replace R_x := hide (R_x.out.then_ hb)
  replace R_f := hide (R_f.out.then_ hb)
  replace B := hide (Below.then_ B.out hb)
  clear hb
  replace R_g := hide R_g
  go_wp2_with fail
  refine (limbs_c R_f.out R_g.out rfl).mono ?_
  rintro e w3 ⟨rfl, hb⟩
  replace R_x := hide (R_x.out.then_ hb)
  replace R_f := hide (R_f.out.then_ hb)
  replace R_g := hide (R_g.out.then_ hb)
  replace B := hide (Below.then_ B.out hb)
  clear hb
  go_wp2
  go_ret
  exact ⟨rfl, B.out⟩
theorem rank_b {w : World} {Bd m c : Nat} {A : Option Addr} {xs : List Int} {n : Int} (hx : RdI w Bd A m c xs) (hB : Bd ≤ w.heap.size) {b : Bool} (h : sbsB n xs = b) : Calls Try.prog 18 #[.int .i64 n, .slice A m c] w (RetCB w (rkI n xs) b) := by rw [← h]; exact rank_any hx hB
theorem rrank_b {w : World} {Bd m c : Nat} {A : Option Addr} {xs : List Int} {n : Int} (hx : RdI w Bd A m c xs) (hB : Bd ≤ w.heap.size) {b : Bool} (h : sbsB n xs = b) : Calls Try.prog 19 #[.int .i64 n, .slice A m c] w (RetCB w (rkI n xs) b) := by rw [← h]; exact rrank_any hx hB
theorem next_b {w : World} {Bd m c : Nat} {A : Option Addr} {xs : List Int} {n : Int} (hx : RdI w Bd A m c xs) (hB : Bd ≤ w.heap.size) {b : Bool} (h : nxB n xs = b) : Calls Try.prog 20 #[.int .i64 n, .slice A m c] w (RetLB w (nxI n xs) b) := by rw [← h]; exact next_any hx hB
theorem rnext_b {w : World} {Bd m c : Nat} {A : Option Addr} {xs : List Int} {n : Int} (hx : RdI w Bd A m c xs) (hB : Bd ≤ w.heap.size) {b : Bool} (h : nxB n xs = b) : Calls Try.prog 21 #[.int .i64 n, .slice A m c] w (RetLB w (nxI n xs) b) := by rw [← h]; exact rnext_any hx hB
set_option maxHeartbeats 4000000 in
set_option maxRecDepth 100000 in
theorem subsets_walk {w : World} {n : Int} {Bd m c : Nat} {A : Option Addr} {xs : List Int} (h_x : RdI w Bd A m c xs) (hB : Bd ≤ w.heap.size) : Calls Try.prog 5 #[.int .i64 n, .slice A m c] w (fun e w' => e = .returned (.bool true) ∧ Below w.heap.size w w') := by
  have R_x := hide (h_x.upto (Below.refl _ _) hB)
  clear h_x
  have B := hide (Below.refl w.heap.size w)
  obtain ⟨b, hb0⟩ : ∃ b, sbsB n xs = b := ⟨_, rfl⟩
  replace hb0 := hide hb0
  obtain ⟨d, hd0⟩ : ∃ b, nxB n xs = b := ⟨_, rfl⟩
  replace hd0 := hide hd0
  go_enter Try.func5, Try.ntmps5
  go_wp2_with fail
  refine (rank_b R_x.out (Nat.le_refl _) hb0.out).mono ?_
  rintro e w1 ⟨x_f, rfl, R_f, hb⟩
  replace R_x := hide (R_x.out.then_ hb)
  replace B := hide (Below.then_ B.out hb)
  clear hb
  replace R_f := hide R_f
  go_wp2_with fail
  refine (rrank_b R_x.out (Nat.le_refl _) hb0.out).mono ?_
  rintro e w2 ⟨x_g, rfl, R_g, hb⟩
  replace R_x := hide (R_x.out.then_ hb)
  replace R_f := hide (R_f.out.then_ hb)
  replace B := hide (Below.then_ B.out hb)
  clear hb
  replace R_g := hide R_g
  go_wp2_with fail
  refine (limbs_c R_f.out R_g.out rfl).mono ?_
  rintro e w3 ⟨rfl, hb⟩
  replace R_x := hide (R_x.out.then_ hb)
  replace R_f := hide (R_f.out.then_ hb)
  replace R_g := hide (R_g.out.then_ hb)
  replace B := hide (Below.then_ B.out hb)
  clear hb
  clear R_f
  clear R_g
  go_wp2_with fail
  refine (next_b R_x.out (Nat.le_refl _) hd0.out).mono ?_
  rintro e w4 ⟨A_f, n_f, c_f, rfl, R_f, hb⟩
  replace R_x := hide (R_x.out.then_ hb)
  replace B := hide (Below.then_ B.out hb)
  clear hb
  replace R_f := hide R_f
  go_wp2_with fail
  refine (rnext_b R_x.out (Nat.le_refl _) hd0.out).mono ?_
  rintro e w5 ⟨A_g, n_g, c_g, rfl, R_g, hb⟩
  replace R_x := hide (R_x.out.then_ hb)
  replace R_f := hide (R_f.out.then_ hb)
  replace B := hide (Below.then_ B.out hb)
  clear hb
  replace R_g := hide R_g
  go_wp2_with fail
  refine (ints_c R_f.out R_g.out rfl).mono ?_
  rintro e w6 ⟨rfl, hb⟩
  replace R_x := hide (R_x.out.then_ hb)
  replace R_f := hide (R_f.out.then_ hb)
  replace R_g := hide (R_g.out.then_ hb)
  replace B := hide (Below.then_ B.out hb)
  clear hb
  go_wp2
  go_ret
  exact ⟨rfl, B.out⟩
theorem unrank_b {w : World} {Bd : Nat} {x : Nc} {r : Nat} {n k : Int} (hi : I64 n ∧ I64 k) (hx : Nv w Bd x r) (hB : Bd ≤ w.heap.size) {b : Bool} (h : unB n k r = b) : Calls Try.prog 23 #[.int .i64 n, .int .i64 k, .slice x.A x.n x.c] w (RetLB w (unI n k r) b) := by rw [← h]; exact unrank_any hi.1 hi.2 hx hB
theorem runrank_b {w : World} {Bd : Nat} {x : Nc} {r : Nat} {n k : Int} (hx : Nv w Bd x r) (hB : Bd ≤ w.heap.size) {b : Bool} (h : unB n k r = b) : Calls Try.prog 24 #[.int .i64 n, .int .i64 k, .slice x.A x.n x.c] w (RetLB w (unI n k r) b) := by rw [← h]; exact runrank_any hx hB
set_option maxHeartbeats 4000000 in
set_option maxRecDepth 100000 in
theorem unranks_walk {w : World} {n k : Int} (hi : I64 n ∧ I64 k) {Bd l c : Nat} {A : Option Addr} {xs : List Nat} (hx : Rd w Bd A l c xs) (hB : Bd ≤ w.heap.size) : Calls Try.prog 6 #[.int .i64 n, .int .i64 k, .slice A l c] w (fun e w' => e = .returned (.bool true) ∧ Below w.heap.size w w') := by
  have hcap := hx.cap
  have hbig := hx.big
  have hcb := hx.cbig
  by_cases h40 : 40 < l
  · have d0 : decide ((40 : Int) < (l : Int)) = true := by simp; omega
    have B := hide (Below.refl w.heap.size w)
    clear hx hB hi
    go_enter Try.func6, Try.ntmps6
    go_wp2
    go_ret
    exact ⟨rfl, B.out⟩
  · have d0 : decide ((40 : Int) < (l : Int)) = false := by simp; omega
    have h_x : Nv w Bd ⟨A, l, c⟩ (val xs) := ⟨xs, hx, rfl, by show l ≤ 1000000; omega⟩
    clear hx
    have R_x := hide (h_x.upto (Below.refl _ _) hB)
    clear h_x
    have B := hide (Below.refl w.heap.size w)
    obtain ⟨b, hb0⟩ : ∃ b, unB n k (val xs) = b := ⟨_, rfl⟩
    replace hb0 := hide hb0
    replace hi := hide hi
    go_enter Try.func6, Try.ntmps6
    go_wp2_with fail
    refine (unrank_b (x := ⟨A, l, c⟩) hi.out R_x.out (Nat.le_refl _) hb0.out).mono ?_
    rintro e w1 ⟨A_f, n_f, c_f, rfl, R_f, hb⟩
    replace R_x := hide (R_x.out.then_ hb)
    replace B := hide (Below.then_ B.out hb)
    clear hb
    replace R_f := hide R_f
    go_wp2_with fail
    refine (runrank_b (x := ⟨A, l, c⟩) R_x.out (Nat.le_refl _) hb0.out).mono ?_
    rintro e w2 ⟨A_g, n_g, c_g, rfl, R_g, hb⟩
    replace R_x := hide (R_x.out.then_ hb)
    replace R_f := hide (R_f.out.then_ hb)
    replace B := hide (Below.then_ B.out hb)
    clear hb
    replace R_g := hide R_g
    go_wp2_with fail
    refine (ints_c R_f.out R_g.out rfl).mono ?_
    rintro e w3 ⟨rfl, hb⟩
    replace R_x := hide (R_x.out.then_ hb)
    replace R_f := hide (R_f.out.then_ hb)
    replace R_g := hide (R_g.out.then_ hb)
    replace B := hide (Below.then_ B.out hb)
    clear hb
    go_wp2
    go_ret
    exact ⟨rfl, B.out⟩
end Go.Proofs.Ytdakfpapigieiaa
