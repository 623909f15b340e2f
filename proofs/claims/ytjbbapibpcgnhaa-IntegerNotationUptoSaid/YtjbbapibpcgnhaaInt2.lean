/-
  Norm, Neg, Sign, Of of integer.
-/
import Derived.Test.YtjbbapibpcgnhaaInt
namespace Go.Proofs.Ytjbbapibpcgnhaa
open Go.RowKit

theorem heap_alloc_at (w : World) (o : Obj) {g : Nat} (h : g = w.heap.size) : (w.alloc o).heap[g]? = some o := by
  subst h; exact heap_alloc_new w o
theorem below_al1 {w w2 : World} {o : Obj} (h : Below (w.heap.size + 1) (w.alloc o) w2) : Below w.heap.size w w2 :=
  ((Below.refl _ _).alloc (Nat.le_refl _) _).trans (h.mono (by omega))
theorem below_al2 {w w2 : World} {o o' : Obj} (h : Below (w.heap.size + 2) ((w.alloc o).alloc o') w2) : Below w.heap.size w w2 :=
  (((Below.refl _ _).alloc (Nat.le_refl _) _).alloc (by simp) _).trans (h.mono (by omega))

theorem Below.then_ {W w' w1 : World} (h : Below W.heap.size W w') (hb : Below w'.heap.size w' w1) : Below W.heap.size W w1 := h.trans (hb.mono h.size)
theorem Below.drw_ (W : World) : Below W.heap.size W W.drew := ⟨rfl, rfl, rfl, Nat.le_refl _, fun _ _ => rfl⟩
/-- what was readable when the call began is so now -/
theorem Rd.there {w W w' : World} {Bd n c : Nat} {A : Option Addr} {xs : List Nat} (h : Rd w Bd A n c xs) (hB : Bd ≤ w.heap.size) (hW : Below w.heap.size w W) (hS : Below W.heap.size W w') : Rd w' w'.heap.size A n c xs :=
  h.upto (hW.trans (hS.mono hW.size)) hB
theorem Rd.then_ {w w' : World} {n c : Nat} {A : Option Addr} {xs : List Nat} (h : Rd w w.heap.size A n c xs) (hS : Below w.heap.size w w') : Rd w' w'.heap.size A n c xs := h.upto hS (Nat.le_refl _)

/-- what a block of two cells reads as, in every later world -/
def Box (W : World) (g : Nat) (a b : Value) : Prop := W.heap[g]? = some (.cells #[a, b] 25 (0, 0))
theorem box_kept_at {w w2 : World} {a b : Value} {g B : Nat} (hg : Box w g a b) (hB : g < B) (hB' : B ≤ w.heap.size) (hb : Below B w w2) :
    w2.cell? ⟨g, 0, none⟩ = some a ∧ w2.cell? ⟨g, 1, none⟩ = some b ∧ w2.frozen? ⟨g, 0, none⟩ = false ∧ w2.frozen? ⟨g, 1, none⟩ = false ∧ g < w2.heap.size := by
  have hg2 : w2.heap[g]? = some (.cells #[a, b] 25 (0, 0)) := (hb.block g hB).trans hg
  refine ⟨?_, ?_, frozen_of_row w2 g 0 _ _ hg2, frozen_of_row w2 g 1 _ _ hg2, Nat.lt_of_lt_of_le hB (Nat.le_trans hB' hb.size)⟩
  · rw [cell_of_row w2 g 0 _ _ _ hg2]; rfl
  · rw [cell_of_row w2 g 1 _ _ _ hg2]; rfl
theorem Box.lt_size {W : World} {g : Nat} {a b : Value} (h : Box W g a b) : g < W.heap.size := (Array.getElem?_eq_some_iff.1 h).1
theorem Box.at0 {W : World} {g B : Nat} {a b : Value} (h : Box W g a b) (hB : g < B) (hB' : B ≤ W.heap.size) : ∀ w', Below B W w' → w'.cell? ⟨g, 0, none⟩ = some a := fun _ hb => (box_kept_at h hB hB' hb).1
theorem Box.at1 {W : World} {g B : Nat} {a b : Value} (h : Box W g a b) (hB : g < B) (hB' : B ≤ W.heap.size) : ∀ w', Below B W w' → w'.cell? ⟨g, 1, none⟩ = some b := fun _ hb => (box_kept_at h hB hB' hb).2.1
theorem Box.free0 {W : World} {g B : Nat} {a b : Value} (h : Box W g a b) (hB : g < B) (hB' : B ≤ W.heap.size) : ∀ w', Below B W w' → w'.frozen? ⟨g, 0, none⟩ = false := fun _ hb => (box_kept_at h hB hB' hb).2.2.1
theorem Box.free1 {W : World} {g B : Nat} {a b : Value} (h : Box W g a b) (hB : g < B) (hB' : B ≤ W.heap.size) : ∀ w', Below B W w' → w'.frozen? ⟨g, 1, none⟩ = false := fun _ hb => (box_kept_at h hB hB' hb).2.2.2.1
theorem Box.lt {W : World} {g B : Nat} {a b : Value} (h : Box W g a b) (hB : g < B) (hB' : B ≤ W.heap.size) : ∀ w', Below B W w' → g < w'.heap.size := fun _ hb => (box_kept_at h hB hB' hb).2.2.2.2
theorem Box.new (w : World) (a b : Value) {g : Nat} (hg : g = w.heap.size) : Box (w.alloc (.cells #[a, b] 25)) g a b := heap_alloc_at _ _ hg
theorem Box.keep {W W' : World} {g : Nat} {a b : Value} (h : Box W g a b) (hb : Below W.heap.size W W') : Box W' g a b :=
  (hb.block g (Array.getElem?_eq_some_iff.1 h).1).trans h
theorem Box.al {W : World} {g : Nat} {a b : Value} (h : Box W g a b) (o : Obj) : Box (W.alloc o) g a b := h.keep ((Below.refl _ _).alloc (Nat.le_refl _) o)

set_option maxHeartbeats 1000000 in
theorem inorm_any (w : World) (Bd : Nat) (s : Bool) (A : Option Addr) (n c : Nat) (xs : List Nat) (h : Rd w Bd A n c xs) (hB : Bd ≤ w.heap.size) :
    Calls Try.prog 19 #[.agg #[.bool s, .slice A n c]] w (RetInt w (iv s (val xs))) := by
  have H := hide h
  clear h
  obtain ⟨z, hz0⟩ : ∃ z, z = iv s (val xs) := ⟨_, rfl⟩
  rw [← hz0]
  replace hz0 := hide hz0
  go_enter Try.func19, Try.ntmps19
  go_wp2_with fail
  refine (imake_any _ Bd s A n c xs ((H.out.alloc hB _).alloc (by simp; omega) _) (by simp; omega)).mono ?_
  rw [← hz0.out]
  rintro e w1 ⟨A1, c1, rfl, R1, hb1⟩
  obtain ⟨hc0, hc1, hf0, hf1, hz⟩ := box_kept (g := w.heap.size + 1) (heap_alloc_at _ _ (by simp)) hb1
  have hb := hide (below_al2 (by simpa using hb1))
  replace R1 := hide R1
  clear hb1 hz0
  go_wp2
  exact bodyPost_ret (v := .agg #[.bool (zneg z), .slice A1 (dig (zmag z)).length c1]) (by simp [results, Try.results19, go_sem, hc0, hc1]) rfl (RetInt.box hb.out (Nat.le_succ _) hc0 hc1 R1.out)

set_option maxHeartbeats 1000000 in
theorem ineg_any (w : World) (Bd : Nat) (s : Bool) (A : Option Addr) (n c : Nat) (xs : List Nat) (h : Rd w Bd A n c xs) (hB : Bd ≤ w.heap.size) :
    Calls Try.prog 21 #[.agg #[.bool s, .slice A n c]] w (RetInt w (-iv s (val xs))) := by
  have H := hide h
  clear h
  rw [← iv_not]
  obtain ⟨z, hz0⟩ : ∃ z, z = iv (!s) (val xs) := ⟨_, rfl⟩
  rw [← hz0]
  replace hz0 := hide hz0
  go_enter Try.func21, Try.ntmps21
  go_wp2_with fail
  refine (imake_any _ Bd (!s) A n c xs ((H.out.alloc hB _).alloc (by simp; omega) _) (by simp; omega)).mono ?_
  rw [← hz0.out]
  rintro e w1 ⟨A1, c1, rfl, R1, hb1⟩
  obtain ⟨hc0, hc1, hf0, hf1, hz⟩ := box_kept (g := w.heap.size + 1) (heap_alloc_at _ _ (by simp)) hb1
  have hb := hide (below_al2 (by simpa using hb1))
  replace R1 := hide R1
  clear hb1 hz0
  go_wp2
  exact bodyPost_ret (v := .agg #[.bool (zneg z), .slice A1 (dig (zmag z)).length c1]) (by simp [results, Try.results21, go_sem, hc0, hc1]) rfl (RetInt.box hb.out (Nat.le_succ _) hc0 hc1 R1.out)

/-- a value was handed back; of what was there nothing has turned -/
def RetB (w : World) (v : Value) (e : Ending) (w' : World) : Prop := e = .returned v ∧ Below w.heap.size w w'

theorem bl_eq_zero (n : Nat) : bl n = 0 ↔ n = 0 := by
  constructor
  · intro h
    rcases Nat.eq_zero_or_pos n with h0 | h0
    · exact h0
    · rw [bl_pos (by omega)] at h; omega
  · rintro rfl; exact bl_zero
theorem sgn_zero : sgn 0 = 0 := rfl
theorem sgn_iv (s : Bool) {m : Nat} (h : m ≠ 0) : sgn (iv s m) = if s then -1 else 1 := by
  unfold sgn
  cases s
  · rw [iv_false]; simp; omega
  · rw [iv_true]; simp; omega

set_option maxHeartbeats 1000000 in
theorem isign_any (w : World) (Bd : Nat) (s : Bool) (A : Option Addr) (n c : Nat) (xs : List Nat) (h : Rd w Bd A n c xs) (hB : Bd ≤ w.heap.size) :
    Calls Try.prog 12 #[.agg #[.bool s, .slice A n c]] w (RetB w (.int .i64 (sgn (iv s (val xs))))) := by
  have H := hide h
  clear h
  have hb : Below w.heap.size w (w.alloc (.cells #[.bool s, .slice A n c] 25)) := (Below.refl _ _).alloc (Nat.le_refl _) _
  replace hb := hide hb
  have hbits := hide (bits_any (w.alloc (.cells #[.bool s, .slice A n c] 25)) Bd A n c xs (H.out.alloc hB _))
  by_cases h0 : val xs = 0
  · rw [h0, bl_zero] at hbits
    rw [h0, iv_zero, sgn_zero]
    clear h0
    go_enter Try.func12, Try.ntmps12
    go_wp2_with fail
    refine hbits.out.mono ?_
    rintro e w' ⟨rfl, rfl⟩
    clear hbits
    go_wp2
    go_ret
    exact ⟨rfl, hb.out⟩
  · have hp : 0 < bl (val xs) := by have := mt (bl_eq_zero (val xs)).1 h0; omega
    rw [sgn_iv s h0]
    generalize bl (val xs) = b at *
    have hne : ((b : Int) == 0) = false := by simp; omega
    clear h0
    cases s
    · go_enter Try.func12, Try.ntmps12
      go_wp2_with fail
      refine hbits.out.mono ?_
      rintro e w' ⟨rfl, rfl⟩
      clear hbits
      go_wp2
      go_ret
      exact ⟨rfl, hb.out⟩
    · go_enter Try.func12, Try.ntmps12
      go_wp2_with fail
      refine hbits.out.mono ?_
      rintro e w' ⟨rfl, rfl⟩
      clear hbits
      go_wp2
      go_ret
      exact ⟨rfl, hb.out⟩

theorem u64_neg {z : Int} (h0 : -9223372036854775808 ≤ z) (h1 : z < 0) : IntKind.u64.wrap (-(IntKind.u64.wrap z)) = (((-z).toNat : Nat) : Int) := by
  simp [IntKind.wrap, IntKind.bits, IntKind.signed]
  omega

set_option maxHeartbeats 1000000 in
theorem iof_any (w : World) (z : Int) (h0 : -9223372036854775808 ≤ z) (h1 : z ≤ 9223372036854775807) :
    Calls Try.prog 15 #[.int .i64 z] w (RetInt w z) := by
  by_cases hn : z < 0
  · have e1 := hide (u64_neg h0 hn)
    have e2 : iv true (-z).toNat = z := by rw [iv_true]; omega
    go_enter Try.func15, Try.ntmps15
    go_wp2_with fail
    rw [e1.out]
    refine (of_any _ (-z).toNat (by omega)).mono ?_
    rintro e w1 ⟨A1, c1, rfl, R1, hb1⟩
    have hb0 := hide hb1
    replace R1 := hide R1
    clear hb1
    go_wp2_with fail
    have hs := signed_any w1 w1.heap.size true A1 _ c1 _ R1.out (Nat.le_refl _)
    rw [e2] at hs
    refine hs.mono ?_
    rintro e w2 ⟨A2, c2, rfl, R2, hb2⟩
    have hb3 := hb0.out.trans (hb2.mono hb0.out.size)
    obtain ⟨hc0, hc1, hf0, hf1, hz⟩ := box_kept (g := w.heap.size) (heap_alloc_at _ _ rfl) hb3
    have hb := hide (below_al1 (by simpa using hb3))
    replace R2 := hide R2
    clear hb2 hb3 hs e2
    go_wp2
    exact bodyPost_ret (v := .agg #[.bool (zneg z), .slice A2 (dig (zmag z)).length c2]) (by simp [results, Try.results15, go_sem, hc0, hc1]) rfl (RetInt.box hb.out (Nat.le_refl _) hc0 hc1 R2.out)
  · obtain ⟨m, rfl⟩ : ∃ m : Nat, z = m := ⟨z.toNat, by omega⟩
    clear h0 hn
    have e2 : iv false m = (m : Int) := rfl
    suffices H : ∀ z' : Int, z' = (m : Int) → Calls Try.prog 15 #[.int .i64 (m : Int)] w (RetInt w z') from H _ rfl
    intro z hz0
    replace hz0 := hide hz0
    go_enter Try.func15, Try.ntmps15
    go_wp2_with fail
    refine (of_any _ m (by omega)).mono ?_
    rintro e w1 ⟨A1, c1, rfl, R1, hb1⟩
    have hb0 := hide hb1
    replace R1 := hide R1
    clear hb1
    go_wp2_with fail
    have hs := signed_any w1 w1.heap.size false A1 _ c1 _ R1.out (Nat.le_refl _)
    rw [e2] at hs
    rw [← hz0.out] at hs
    refine hs.mono ?_
    rintro e w2 ⟨A2, c2, rfl, R2, hb2⟩
    have hb3 := hb0.out.trans (hb2.mono hb0.out.size)
    obtain ⟨hc0, hc1, hf0, hf1, hz⟩ := box_kept (g := w.heap.size) (heap_alloc_at _ _ rfl) hb3
    have hb := hide (below_al1 (by simpa using hb3))
    replace R2 := hide R2
    clear hb2 hb3 hs e2
    go_wp2
    exact bodyPost_ret (v := .agg #[.bool (zneg z), .slice A2 (dig (zmag z)).length c2]) (by simp [results, Try.results15, go_sem, hc0, hc1]) rfl (RetInt.box hb.out (Nat.le_refl _) hc0 hc1 R2.out)

end Go.Proofs.Ytjbbapibpcgnhaa
