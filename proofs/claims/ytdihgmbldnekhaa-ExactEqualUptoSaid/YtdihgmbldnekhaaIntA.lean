/-
  Int, Int2, Int3.
-/
import Derived.Test.YtdihgmbldnekhaaRefSum
import Derived.Deep.RegionHeld3
import Derived.Lib.SmallJoins
import Derived.Test.YtdihgmbldnekhaaNatSum
namespace Go.Proofs.Ytdihgmbldnekhaa
section
open Go.RowKit

/-- the integer with that sign and magnitude -/
def iv (s : Bool) (m : Nat) : Int := if s then -(m : Int) else (m : Int)
/-- its sign bit in normal form -/
def zneg (z : Int) : Bool := decide (z < 0)
/-- its magnitude -/
def zmag (z : Int) : Nat := z.natAbs
def sgn (z : Int) : Int := z.sign

theorem iv_false (m : Nat) : iv false m = (m : Int) := rfl
theorem iv_true (m : Nat) : iv true m = -(m : Int) := rfl
theorem iv_zero (s : Bool) : iv s 0 = 0 := by cases s <;> rfl
theorem iv_not (s : Bool) (m : Nat) : iv (!s) m = -iv s m := by cases s <;> simp [iv]
theorem zmag_iv (s : Bool) (m : Nat) : zmag (iv s m) = m := by cases s <;> simp [iv, zmag]
theorem zneg_iv (s : Bool) {m : Nat} (h : m ≠ 0) : zneg (iv s m) = s := by cases s <;> simp [iv, zneg] <;> omega
theorem zneg_zero : zneg 0 = false := rfl
theorem iv_eta (z : Int) : iv (zneg z) (zmag z) = z := by unfold iv zneg zmag; by_cases h : z < 0 <;> simp [h] <;> omega

/-- An integer was handed back, in normal form; of what was there nothing has turned. -/
def RetInt (w : World) (z : Int) (e : Ending) (w' : World) : Prop :=
  ∃ A c, e = .returned (.agg #[.bool (zneg z), .slice A (dig (zmag z)).length c]) ∧ Rd w' w'.heap.size A (dig (zmag z)).length c (dig (zmag z)) ∧ Below w.heap.size w w'

theorem Rd.upto {w w' : World} {Bd : Nat} {A : Option Addr} {n c : Nat} {xs : List Nat} (h : Rd w Bd A n c xs) (hb : Below w.heap.size w w') (hB : Bd ≤ w.heap.size) : Rd w' w'.heap.size A n c xs :=
  (h.below (Go.Joins.below_le hb hB)).more (Nat.le_trans hB hb.size)

theorem bcell {W w1 : World} {B : Nat} (hb : Below B W w1) : (∀ b o, b < B → w1.cell? ⟨b, o, none⟩ = W.cell? ⟨b, o, none⟩) ∧ (∀ b o, b < B → w1.frozen? ⟨b, o, none⟩ = W.frozen? ⟨b, o, none⟩) :=
  ⟨fun b o h => hb.cell (p := ⟨b, o, none⟩) h, fun b o h => hb.frozen (p := ⟨b, o, none⟩) h⟩

theorem RetInt.mk {w w' : World} {s : Bool} {A : Option Addr} {n c m : Nat} (h : Rd w' w'.heap.size A n c (dig m)) (hs : m = 0 → s = false) (hb : Below w.heap.size w w') :
    RetInt w (iv s m) (.returned (.agg #[.bool s, .slice A n c])) w' := by
  have hn := h.len
  subst hn
  have e : zneg (iv s m) = s := by
    by_cases h0 : m = 0
    · rw [h0, iv_zero, hs h0]; rfl
    · exact zneg_iv s h0
  refine ⟨A, c, by rw [e, zmag_iv], ?_, hb⟩
  rw [zmag_iv]
  exact h

set_option maxHeartbeats 1000000 in
/-- signed: the magnitude is in normal form -/
theorem signed_any (w : World) (Bd : Nat) (s : Bool) (A : Option Addr) (n c m : Nat) (h : Rd w Bd A n c (dig m)) (hB : Bd ≤ w.heap.size) :
    Calls Try.prog 94 #[.bool s, .slice A n c] w (RetInt w (iv s m)) := by
  have hl := h.len
  have H := hide h
  clear h
  by_cases h0 : m = 0
  · subst h0
    rw [dig_zero] at hl
    obtain rfl : n = 0 := hl.symm
    have hp := hide (RetInt.mk (w := w) (w' := w.alloc (.cells #[.bool false, .slice none 0 0] 25)) (s := false) (A := none) (n := 0) (c := 0) (m := 0) (by rw [dig_zero]; exact Rd.empty _ _ _ (by omega)) (fun _ => rfl) ((Below.refl _ _).alloc (Nat.le_refl _) _))
    rw [iv_zero] at hp ⊢
    clear hl hB
    go_enter Try.func94, Try.ntmps94
    go_wp2
    exact bodyPost_ret (v := .agg #[.bool false, .slice none 0 0]) (by simp [results, Try.results94, go_sem]) rfl hp.out
  · have hn : 0 < n := by have := mt dig_len_zero.1 h0; omega
    have hp := hide (RetInt.mk (w := w) (w' := w.alloc (.cells #[.bool s, .slice A n c] 25)) (s := s) ((H.out.alloc hB _).more (Nat.le_trans hB (by simp))) (fun h => absurd h h0) ((Below.refl _ _).alloc (Nat.le_refl _) _))
    clear hl hB h0
    go_enter Try.func94, Try.ntmps94
    go_wp2
    exact bodyPost_ret (v := .agg #[.bool s, .slice A n c]) (by simp [results, Try.results94, go_sem]) rfl hp.out

/-- a block of two cells that the call made, in a later world -/
theorem box_kept {w w2 : World} {a b : Value} {g : Nat} (hg : w.heap[g]? = some (.cells #[a, b] 25 (0, 0))) (hb : Below w.heap.size w w2) :
    w2.cell? ⟨g, 0, none⟩ = some a ∧ w2.cell? ⟨g, 1, none⟩ = some b ∧ w2.frozen? ⟨g, 0, none⟩ = false ∧ w2.frozen? ⟨g, 1, none⟩ = false ∧ g < w2.heap.size := by
  have hl : g < w.heap.size := (Array.getElem?_eq_some_iff.1 hg).1
  have hg2 : w2.heap[g]? = some (.cells #[a, b] 25 (0, 0)) := (hb.block g hl).trans hg
  refine ⟨?_, ?_, frozen_of_row w2 g 0 _ _ hg2, frozen_of_row w2 g 1 _ _ hg2, Nat.lt_of_lt_of_le hl hb.size⟩
  · rw [cell_of_row w2 g 0 _ _ _ hg2]; rfl
  · rw [cell_of_row w2 g 1 _ _ _ hg2]; rfl

/-- a store elsewhere: the cell holds no limb -/
theorem Rd.far {w : World} {Bd n c : Nat} {A : Option Addr} {xs : List Nat} (h : Rd w Bd A n c xs) {g o : Nat} {v u : Value} (hp : w.cell? ⟨g, o, none⟩ = some v) (hv : ∀ x, v ≠ .int .u32 x) : Rd (w.setCell ⟨g, o, none⟩ u) Bd A n c xs :=
  ⟨h.len, h.limbs, h.cap, h.big, h.cbig, fun hn => by
    obtain ⟨ad, e, hb, hc⟩ := h.cells hn
    refine ⟨ad, e, hb, fun j hj => ?_⟩
    have h1 := hc j hj
    rw [World.cell?_setCell_other, h1]
    intro e2
    rw [← e2, hp] at h1
    exact hv _ (Option.some.inj h1)⟩
theorem RetInt.box {w w2 : World} {z : Int} {A A' : Option Addr} {c n' c' g : Nat} {b : Bool} (hb : Below w.heap.size w w2) (hg : w.heap.size ≤ g) (hc0 : w2.cell? ⟨g, 0, none⟩ = some (.bool b)) (hc1 : w2.cell? ⟨g, 1, none⟩ = some (.slice A' n' c'))
    (R : Rd w2 w2.heap.size A (dig (zmag z)).length c (dig (zmag z))) :
    RetInt w z (.returned (.agg #[.bool (zneg z), .slice A (dig (zmag z)).length c])) ((w2.setCell ⟨g, 0, none⟩ (.bool (zneg z))).setCell ⟨g, 1, none⟩ (.slice A (dig (zmag z)).length c)) := by
  have h1 : (w2.setCell ⟨g, 0, none⟩ (.bool (zneg z))).cell? ⟨g, 1, none⟩ = some (.slice A' n' c') := (World.cell?_setCell_other _ _ _ _ (by simp)).trans hc1
  refine ⟨A, c, rfl, ?_, (hb.setCell hg _).setCell hg _⟩
  have := (R.far (u := .bool (zneg z)) hc0 (fun x h => by cases h)).far (u := .slice A (dig (zmag z)).length c) h1 (fun x h => by cases h)
  simpa using this

set_option maxHeartbeats 1000000 in
theorem imake_any (w : World) (Bd : Nat) (s : Bool) (A : Option Addr) (n c : Nat) (xs : List Nat) (h : Rd w Bd A n c xs) (hB : Bd ≤ w.heap.size) :
    Calls Try.prog 93 #[.bool s, .slice A n c] w (RetInt w (iv s (val xs))) := by
  have H := hide h
  clear h
  go_enter Try.func93, Try.ntmps93
  go_wp2_with fail
  refine (norm_any _ Bd A n c xs (H.out.alloc hB _) (by simp; omega)).mono ?_
  intro e w1 hr
  obtain ⟨A1, c1, rfl, R1, hb1⟩ := RetOwn.nat hr
  replace R1 := hide R1
  replace hb1 := hide hb1
  go_wp2_with fail
  refine (signed_any w1 w1.heap.size s A1 _ c1 (val xs) R1.out (Nat.le_refl _)).mono ?_
  rintro e w2 ⟨A2, c2, rfl, R2, hb2⟩
  obtain ⟨hc0, hc1, hf0, hf1, hz⟩ := box_kept (w := w.alloc (.cells #[.bool false, .slice none 0 0] 25)) (heap_alloc_new w _) (hb1.out.trans (hb2.mono hb1.out.size))
  replace hb2 := hide hb2
  replace R2 := hide R2
  clear hr
  go_wp2
  exact bodyPost_ret (v := .agg #[.bool (zneg (iv s (val xs))), .slice A2 (dig (zmag (iv s (val xs)))).length c2]) (by simp [results, Try.results93, go_sem, hc0, hc1]) rfl (RetInt.box (((Below.refl _ _).alloc (Nat.le_refl _) _).trans ((hb1.out.trans (hb2.out.mono hb1.out.size)).mono (by simp))) (Nat.le_refl _) hc0 hc1 R2.out)
end

section
open Go.RowKit

theorem heap_alloc_at (w : World) (o : Obj) {g : Nat} (h : g = w.heap.size) : (w.alloc o).heap[g]? = some o := by
  subst h; exact heap_alloc_new w o
theorem below_al1 {w w2 : World} {o : Obj} (h : Below (w.heap.size + 1) (w.alloc o) w2) : Below w.heap.size w w2 :=
  ((Below.refl _ _).alloc (Nat.le_refl _) _).trans (h.mono (by omega))
theorem below_al2 {w w2 : World} {o o' : Obj} (h : Below (w.heap.size + 2) ((w.alloc o).alloc o') w2) : Below w.heap.size w w2 :=
  (((Below.refl _ _).alloc (Nat.le_refl _) _).alloc (by simp) _).trans (h.mono (by omega))

theorem Below.then_ {W w' w1 : World} (h : Below W.heap.size W w') (hb : Below w'.heap.size w' w1) : Below W.heap.size W w1 := h.trans (hb.mono h.size)
theorem Below.drw_ (W : World) : Below W.heap.size W W.drew := ⟨rfl, rfl, rfl, Nat.le_refl _, fun _ _ => rfl⟩
/-- what was readable when the call began is so now -/
theorem Rd.there {w W w' : World} {Bd n c : Nat} {A : Option Addr} {xs : List Nat} (h : Rd w Bd A n c xs) (hB : Bd ≤ w.heap.size) (hW : Below w.heap.size w W) (hS : Below W.heap.size W w') : Rd w' w'.heap.size A n c xs :=
  h.upto (hW.trans (hS.mono hW.size)) hB
theorem Rd.then_ {w w' : World} {n c : Nat} {A : Option Addr} {xs : List Nat} (h : Rd w w.heap.size A n c xs) (hS : Below w.heap.size w w') : Rd w' w'.heap.size A n c xs := h.upto hS (Nat.le_refl _)

/-- what a block of two cells reads as, in every later world -/
def Box (W : World) (g : Nat) (a b : Value) : Prop := W.heap[g]? = some (.cells #[a, b] 25 (0, 0))
theorem box_kept_at {w w2 : World} {a b : Value} {g B : Nat} (hg : Box w g a b) (hB : g < B) (hB' : B ≤ w.heap.size) (hb : Below B w w2) :
    w2.cell? ⟨g, 0, none⟩ = some a ∧ w2.cell? ⟨g, 1, none⟩ = some b ∧ w2.frozen? ⟨g, 0, none⟩ = false ∧ w2.frozen? ⟨g, 1, none⟩ = false ∧ g < w2.heap.size := by
  have hg2 : w2.heap[g]? = some (.cells #[a, b] 25 (0, 0)) := (hb.block g hB).trans hg
  refine ⟨?_, ?_, frozen_of_row w2 g 0 _ _ hg2, frozen_of_row w2 g 1 _ _ hg2, Nat.lt_of_lt_of_le hB (Nat.le_trans hB' hb.size)⟩
  · rw [cell_of_row w2 g 0 _ _ _ hg2]; rfl
  · rw [cell_of_row w2 g 1 _ _ _ hg2]; rfl
theorem Box.lt_size {W : World} {g : Nat} {a b : Value} (h : Box W g a b) : g < W.heap.size := (Array.getElem?_eq_some_iff.1 h).1
theorem Box.at0 {W : World} {g B : Nat} {a b : Value} (h : Box W g a b) (hB : g < B) (hB' : B ≤ W.heap.size) : ∀ w', Below B W w' → w'.cell? ⟨g, 0, none⟩ = some a := fun _ hb => (box_kept_at h hB hB' hb).1
theorem Box.at1 {W : World} {g B : Nat} {a b : Value} (h : Box W g a b) (hB : g < B) (hB' : B ≤ W.heap.size) : ∀ w', Below B W w' → w'.cell? ⟨g, 1, none⟩ = some b := fun _ hb => (box_kept_at h hB hB' hb).2.1
theorem Box.free0 {W : World} {g B : Nat} {a b : Value} (h : Box W g a b) (hB : g < B) (hB' : B ≤ W.heap.size) : ∀ w', Below B W w' → w'.frozen? ⟨g, 0, none⟩ = false := fun _ hb => (box_kept_at h hB hB' hb).2.2.1
theorem Box.free1 {W : World} {g B : Nat} {a b : Value} (h : Box W g a b) (hB : g < B) (hB' : B ≤ W.heap.size) : ∀ w', Below B W w' → w'.frozen? ⟨g, 1, none⟩ = false := fun _ hb => (box_kept_at h hB hB' hb).2.2.2.1
theorem Box.lt {W : World} {g B : Nat} {a b : Value} (h : Box W g a b) (hB : g < B) (hB' : B ≤ W.heap.size) : ∀ w', Below B W w' → g < w'.heap.size := fun _ hb => (box_kept_at h hB hB' hb).2.2.2.2
theorem Box.new (w : World) (a b : Value) {g : Nat} (hg : g = w.heap.size) : Box (w.alloc (.cells #[a, b] 25)) g a b := heap_alloc_at _ _ hg
theorem Box.keep {W W' : World} {g : Nat} {a b : Value} (h : Box W g a b) (hb : Below W.heap.size W W') : Box W' g a b :=
  (hb.block g (Array.getElem?_eq_some_iff.1 h).1).trans h
theorem Box.al {W : World} {g : Nat} {a b : Value} (h : Box W g a b) (o : Obj) : Box (W.alloc o) g a b := h.keep ((Below.refl _ _).alloc (Nat.le_refl _) o)

set_option maxHeartbeats 1000000 in
theorem ineg_any (w : World) (Bd : Nat) (s : Bool) (A : Option Addr) (n c : Nat) (xs : List Nat) (h : Rd w Bd A n c xs) (hB : Bd ≤ w.heap.size) :
    Calls Try.prog 65 #[.agg #[.bool s, .slice A n c]] w (RetInt w (-iv s (val xs))) := by
  have H := hide h
  clear h
  rw [← iv_not]
  obtain ⟨z, hz0⟩ : ∃ z, z = iv (!s) (val xs) := ⟨_, rfl⟩
  rw [← hz0]
  replace hz0 := hide hz0
  go_enter Try.func65, Try.ntmps65
  go_wp2_with fail
  refine (imake_any _ Bd (!s) A n c xs ((H.out.alloc hB _).alloc (by simp; omega) _) (by simp; omega)).mono ?_
  rw [← hz0.out]
  rintro e w1 ⟨A1, c1, rfl, R1, hb1⟩
  obtain ⟨hc0, hc1, hf0, hf1, hz⟩ := box_kept (g := w.heap.size + 1) (heap_alloc_at _ _ (by simp)) hb1
  have hb := hide (below_al2 (by simpa using hb1))
  replace R1 := hide R1
  clear hb1 hz0
  go_wp2
  exact bodyPost_ret (v := .agg #[.bool (zneg z), .slice A1 (dig (zmag z)).length c1]) (by simp [results, Try.results65, go_sem, hc0, hc1]) rfl (RetInt.box hb.out (Nat.le_succ _) hc0 hc1 R1.out)

/-- a value was handed back; of what was there nothing has turned -/
def RetB (w : World) (v : Value) (e : Ending) (w' : World) : Prop := e = .returned v ∧ Below w.heap.size w w'

theorem bl_eq_zero (n : Nat) : bl n = 0 ↔ n = 0 := by
  constructor
  · intro h
    rcases Nat.eq_zero_or_pos n with h0 | h0
    · exact h0
    · rw [bl_pos (by omega)] at h; omega
  · rintro rfl; exact bl_zero
theorem sgn_zero : sgn 0 = 0 := rfl
theorem sgn_iv (s : Bool) {m : Nat} (h : m ≠ 0) : sgn (iv s m) = if s then -1 else 1 := by
  unfold sgn
  cases s
  · rw [iv_false]; simp; omega
  · rw [iv_true]; simp; omega

set_option maxHeartbeats 1000000 in
theorem isign_any (w : World) (Bd : Nat) (s : Bool) (A : Option Addr) (n c : Nat) (xs : List Nat) (h : Rd w Bd A n c xs) (hB : Bd ≤ w.heap.size) :
    Calls Try.prog 73 #[.agg #[.bool s, .slice A n c]] w (RetB w (.int .i64 (sgn (iv s (val xs))))) := by
  have H := hide h
  clear h
  have hb : Below w.heap.size w (w.alloc (.cells #[.bool s, .slice A n c] 25)) := (Below.refl _ _).alloc (Nat.le_refl _) _
  replace hb := hide hb
  have hbits := hide (bits_any (w.alloc (.cells #[.bool s, .slice A n c] 25)) Bd A n c xs (H.out.alloc hB _))
  by_cases h0 : val xs = 0
  · rw [h0, bl_zero] at hbits
    rw [h0, iv_zero, sgn_zero]
    clear h0
    go_enter Try.func73, Try.ntmps73
    go_wp2_with fail
    refine hbits.out.mono ?_
    rintro e w' ⟨rfl, rfl⟩
    clear hbits
    go_wp2
    go_ret
    exact ⟨rfl, hb.out⟩
  · have hp : 0 < bl (val xs) := by have := mt (bl_eq_zero (val xs)).1 h0; omega
    rw [sgn_iv s h0]
    generalize bl (val xs) = b at *
    have hne : ((b : Int) == 0) = false := by simp; omega
    clear h0
    cases s
    · go_enter Try.func73, Try.ntmps73
      go_wp2_with fail
      refine hbits.out.mono ?_
      rintro e w' ⟨rfl, rfl⟩
      clear hbits
      go_wp2
      go_ret
      exact ⟨rfl, hb.out⟩
    · go_enter Try.func73, Try.ntmps73
      go_wp2_with fail
      refine hbits.out.mono ?_
      rintro e w' ⟨rfl, rfl⟩
      clear hbits
      go_wp2
      go_ret
      exact ⟨rfl, hb.out⟩

theorem u64_neg {z : Int} (h0 : -9223372036854775808 ≤ z) (h1 : z < 0) : IntKind.u64.wrap (-(IntKind.u64.wrap z)) = (((-z).toNat : Nat) : Int) := by
  simp [IntKind.wrap, IntKind.bits, IntKind.signed]
  omega

set_option maxHeartbeats 1000000 in
theorem iof_any (w : World) (z : Int) (h0 : -9223372036854775808 ≤ z) (h1 : z ≤ 9223372036854775807) :
    Calls Try.prog 72 #[.int .i64 z] w (RetInt w z) := by
  by_cases hn : z < 0
  · have e1 := hide (u64_neg h0 hn)
    have e2 : iv true (-z).toNat = z := by rw [iv_true]; omega
    go_enter Try.func72, Try.ntmps72
    go_wp2_with fail
    rw [e1.out]
    refine (of_any _ (-z).toNat (by omega)).mono ?_
    rintro e w1 ⟨A1, c1, rfl, R1, hb1⟩
    have hb0 := hide hb1
    replace R1 := hide R1
    clear hb1
    go_wp2_with fail
    have hs := signed_any w1 w1.heap.size true A1 _ c1 _ R1.out (Nat.le_refl _)
    rw [e2] at hs
    refine hs.mono ?_
    rintro e w2 ⟨A2, c2, rfl, R2, hb2⟩
    have hb3 := hb0.out.trans (hb2.mono hb0.out.size)
    obtain ⟨hc0, hc1, hf0, hf1, hz⟩ := box_kept (g := w.heap.size) (heap_alloc_at _ _ rfl) hb3
    have hb := hide (below_al1 (by simpa using hb3))
    replace R2 := hide R2
    clear hb2 hb3 hs e2
    go_wp2
    exact bodyPost_ret (v := .agg #[.bool (zneg z), .slice A2 (dig (zmag z)).length c2]) (by simp [results, Try.results72, go_sem, hc0, hc1]) rfl (RetInt.box hb.out (Nat.le_refl _) hc0 hc1 R2.out)
  · obtain ⟨m, rfl⟩ : ∃ m : Nat, z = m := ⟨z.toNat, by omega⟩
    clear h0 hn
    have e2 : iv false m = (m : Int) := rfl
    suffices H : ∀ z' : Int, z' = (m : Int) → Calls Try.prog 72 #[.int .i64 (m : Int)] w (RetInt w z') from H _ rfl
    intro z hz0
    replace hz0 := hide hz0
    go_enter Try.func72, Try.ntmps72
    go_wp2_with fail
    refine (of_any _ m (by omega)).mono ?_
    rintro e w1 ⟨A1, c1, rfl, R1, hb1⟩
    have hb0 := hide hb1
    replace R1 := hide R1
    clear hb1
    go_wp2_with fail
    have hs := signed_any w1 w1.heap.size false A1 _ c1 _ R1.out (Nat.le_refl _)
    rw [e2] at hs
    rw [← hz0.out] at hs
    refine hs.mono ?_
    rintro e w2 ⟨A2, c2, rfl, R2, hb2⟩
    have hb3 := hb0.out.trans (hb2.mono hb0.out.size)
    obtain ⟨hc0, hc1, hf0, hf1, hz⟩ := box_kept (g := w.heap.size) (heap_alloc_at _ _ rfl) hb3
    have hb := hide (below_al1 (by simpa using hb3))
    replace R2 := hide R2
    clear hb2 hb3 hs e2
    go_wp2
    exact bodyPost_ret (v := .agg #[.bool (zneg z), .slice A2 (dig (zmag z)).length c2]) (by simp [results, Try.results72, go_sem, hc0, hc1]) rfl (RetInt.box hb.out (Nat.le_refl _) hc0 hc1 R2.out)
end

section
open Go.RowKit

theorem iv_add_same (s : Bool) (x y : Nat) : iv s x + iv s y = iv s (x + y) := by cases s <;> simp [iv] <;> omega
theorem iv_add_more {s s' : Bool} (hs : ¬ s = s') {x y : Nat} (h : y ≤ x) : iv s x + iv s' y = iv s (x - y) := by cases s <;> cases s' <;> simp [iv] at * <;> omega
theorem iv_add_less {s s' : Bool} (hs : ¬ s = s') {x y : Nat} (h : x ≤ y) : iv s x + iv s' y = iv s' (y - x) := by cases s <;> cases s' <;> simp [iv] at * <;> omega
theorem iv_mul (s s' : Bool) (x y : Nat) : iv (!(s == s')) (x * y) = iv s x * iv s' y := by cases s <;> cases s' <;> simp [iv, Int.neg_mul, Int.mul_neg]
theorem iv_sub (s s' : Bool) (x y : Nat) : iv s x + iv (!s') y = iv s x - iv s' y := by rw [iv_not]; omega

set_option maxHeartbeats 4000000 in
theorem imul0 (w : World) (Bd : Nat) (s s' : Bool) (A A' : Option Addr) (n c n' c' : Nat) (xs ys : List Nat) (h : Rd w Bd A n c xs) (h' : Rd w Bd A' n' c' ys) (hB : Bd ≤ w.heap.size) (hn : n + n' ≤ 70368744177664) :
    Calls Try.prog 60 #[.agg #[.bool s, .slice A n c], .agg #[.bool s', .slice A' n' c']] w (RetInt w (iv (!(s == s')) (val xs * val ys))) := by
  obtain ⟨z, hz0⟩ : ∃ z, z = iv (!(s == s')) (val xs * val ys) := ⟨_, rfl⟩
  rw [← hz0]
  replace hz0 := hide hz0
  have H := hide h
  have H' := hide h'
  clear h h'
  obtain ⟨W, hW⟩ : ∃ W, W = (((w.alloc (.cells #[.bool s, .slice A n c] 25)).alloc (.cells #[.bool s', .slice A' n' c'] 25)).alloc (.cells #[.bool false, .slice none 0 0] 25)) := ⟨_, rfl⟩
  have b0 : Box W (w.heap.size) (.bool s) (.slice A n c) := by rw [hW]; exact (((Box.new w _ _ rfl).al _).al _)
  have b1 : Box W (w.heap.size + 1) (.bool s') (.slice A' n' c') := by rw [hW]; exact ((Box.new _ _ _ (by simp)).al _)
  have b2 : Box W (w.heap.size + 1 + 1) (.bool false) (.slice none 0 0) := by rw [hW]; exact (Box.new _ _ _ (by simp))
  have hwW : Below w.heap.size w W := by rw [hW]; exact ((((Below.refl _ _).alloc (Nat.le_refl _) _).alloc (by simp) _).alloc (by simp; omega) _)
  have hsz : W.heap.size = w.heap.size + 3 := by rw [hW]; simp
  replace hsz := hide hsz
  go_enter Try.func60, Try.ntmps60
  go_wp2_with fail
  rw [← hW]
  clear hW
  have hg : w.heap.size + 1 + 1 ≤ W.heap.size := by have := hsz.out; omega
  have c00 := b0.at0 (B := w.heap.size + 1 + 1) (by omega) hg
  have c01 := b0.at1 (B := w.heap.size + 1 + 1) (by omega) hg
  have c10 := b1.at0 (B := w.heap.size + 1 + 1) (by omega) hg
  have c11 := b1.at1 (B := w.heap.size + 1 + 1) (by omega) hg
  have c20 := b2.at0 b2.lt_size (Nat.le_refl _)
  have c21 := b2.at1 b2.lt_size (Nat.le_refl _)
  have f20 := b2.free0 b2.lt_size (Nat.le_refl _)
  have f21 := b2.free1 b2.lt_size (Nat.le_refl _)
  have l2 := b2.lt b2.lt_size (Nat.le_refl _)
  have hS0 : Below W.heap.size W W := Below.refl _ _
  have hT0 := hS0.mono hg
  replace hg := hide hg
  replace hwW := hide hwW
  replace b0 := hide b0
  replace b1 := hide b1
  replace b2 := hide b2
  have hx : ∀ w', Below W.heap.size W w' → Rd w' w'.heap.size A n c xs := fun w' hS => H.out.there hB hwW.out hS
  have hy : ∀ w', Below W.heap.size W w' → Rd w' w'.heap.size A' n' c' ys := fun w' hS => H'.out.there hB hwW.out hS
  replace hx := hide hx
  replace hy := hide hy
  go_region_held3 (fun w' => Below (w.heap.size + 1 + 1) W w') (first | assumption | (with_reducible exact (Below.drw_ _).mono hg.out) | exact ((hT2.setCell (Nat.le_refl _) _).setCell (Nat.le_refl _) _))
    (first
      | (go_at_call 52; ((have hS : Below W.heap.size W _ := Below.drw_ W); (with_reducible refine (mul_any _ _ A A' n c n' c' xs ys (hx.out _ hS) (hy.out _ hS) (Nat.le_refl _) hn).mono ?_); rintro e w1 ⟨A1, c1, rfl, R1, hb1⟩; have hS1 : Below W.heap.size W w1 := Below.then_ hS hb1; have hT1 := hS1.mono hg.out; replace hb1 := hide hb1))
      | (go_at_call 94; ((with_reducible refine (signed_any _ _ (!(s == s')) _ _ _ _ R1 (Nat.le_refl _)).mono ?_); rw [← hz0.out]; rintro e w2 ⟨A2, c2, rfl, R2, hb2⟩; have hS2 : Below W.heap.size W w2 := Below.then_ hS1 hb2; have hT2 := hS2.mono hg.out; replace hb2 := hide hb2)))
  have R_z := hide R2
  clear R2
  go_wp2
  exact bodyPost_ret (v := .agg #[.bool (zneg z), .slice A2 (dig (zmag z)).length c2]) (by simp [results, Try.results60, go_sem, c20 _ hS2, c21 _ hS2]) rfl (RetInt.box (hwW.out.trans (hS2.mono hwW.out.size)) (by omega) (c20 _ hS2) (c21 _ hS2) R_z.out)

theorem imul_any (w : World) (Bd : Nat) (s s' : Bool) (A A' : Option Addr) (n c n' c' : Nat) (xs ys : List Nat) (h : Rd w Bd A n c xs) (h' : Rd w Bd A' n' c' ys) (hB : Bd ≤ w.heap.size) (hn : n + n' ≤ 70368744177664) :
    Calls Try.prog 60 #[.agg #[.bool s, .slice A n c], .agg #[.bool s', .slice A' n' c']] w (RetInt w (iv s (val xs) * iv s' (val ys))) := by
  rw [← iv_mul]
  exact imul0 w Bd s s' A A' n c n' c' xs ys h h' hB hn

set_option maxHeartbeats 4000000 in
theorem iadd_any_same (w : World) (Bd : Nat) (s : Bool) (A A' : Option Addr) (n c n' c' : Nat) (xs ys : List Nat) (h : Rd w Bd A n c xs) (h' : Rd w Bd A' n' c' ys) (hB : Bd ≤ w.heap.size) (hn : n + 1 ≤ 70368744177664) (hn' : n' + 1 ≤ 70368744177664) :
    Calls Try.prog 96 #[.agg #[.bool s, .slice A n c], .agg #[.bool s, .slice A' n' c']] w (RetInt w (iv s (val xs + val ys))) := by
  obtain ⟨z, hz0⟩ : ∃ z, z = iv s (val xs + val ys) := ⟨_, rfl⟩
  rw [← hz0]
  replace hz0 := hide hz0
  have H := hide h
  have H' := hide h'
  clear h h'
  obtain ⟨W, hW⟩ : ∃ W, W = (((w.alloc (.cells #[.bool s, .slice A n c] 25)).alloc (.cells #[.bool s, .slice A' n' c'] 25)).alloc (.cells #[.bool false, .slice none 0 0] 25)) := ⟨_, rfl⟩
  have b0 : Box W (w.heap.size) (.bool s) (.slice A n c) := by rw [hW]; exact (((Box.new w _ _ rfl).al _).al _)
  have b1 : Box W (w.heap.size + 1) (.bool s) (.slice A' n' c') := by rw [hW]; exact ((Box.new _ _ _ (by simp)).al _)
  have b2 : Box W (w.heap.size + 1 + 1) (.bool false) (.slice none 0 0) := by rw [hW]; exact (Box.new _ _ _ (by simp))
  have hwW : Below w.heap.size w W := by rw [hW]; exact ((((Below.refl _ _).alloc (Nat.le_refl _) _).alloc (by simp) _).alloc (by simp; omega) _)
  have hsz : W.heap.size = w.heap.size + 3 := by rw [hW]; simp
  replace hsz := hide hsz
  go_enter Try.func96, Try.ntmps96
  go_wp2_with fail
  rw [← hW]
  clear hW
  have hg : w.heap.size + 1 + 1 ≤ W.heap.size := by have := hsz.out; omega
  have c00 := b0.at0 (B := w.heap.size + 1 + 1) (by omega) hg
  have c01 := b0.at1 (B := w.heap.size + 1 + 1) (by omega) hg
  have c10 := b1.at0 (B := w.heap.size + 1 + 1) (by omega) hg
  have c11 := b1.at1 (B := w.heap.size + 1 + 1) (by omega) hg
  have c20 := b2.at0 b2.lt_size (Nat.le_refl _)
  have c21 := b2.at1 b2.lt_size (Nat.le_refl _)
  have f20 := b2.free0 b2.lt_size (Nat.le_refl _)
  have f21 := b2.free1 b2.lt_size (Nat.le_refl _)
  have l2 := b2.lt b2.lt_size (Nat.le_refl _)
  have hS0 : Below W.heap.size W W := Below.refl _ _
  have hT0 := hS0.mono hg
  replace hg := hide hg
  replace hwW := hide hwW
  replace b0 := hide b0
  replace b1 := hide b1
  replace b2 := hide b2
  have hx : ∀ w', Below W.heap.size W w' → Rd w' w'.heap.size A n c xs := fun w' hS => H.out.there hB hwW.out hS
  have hy : ∀ w', Below W.heap.size W w' → Rd w' w'.heap.size A' n' c' ys := fun w' hS => H'.out.there hB hwW.out hS
  replace hx := hide hx
  replace hy := hide hy
  go_wp2_with fail
  go_region_held3 (fun w' => Below (w.heap.size + 1 + 1) W w') (first | assumption | (with_reducible exact (Below.drw_ _).mono hg.out) | exact ((hT2.setCell (Nat.le_refl _) _).setCell (Nat.le_refl _) _))
    (first
      | (go_at_call 77; ((have hS : Below W.heap.size W _ := Below.drw_ W); (with_reducible refine (add_any _ _ A A' n c n' c' xs ys (hx.out _ hS) (hy.out _ hS) (Nat.le_refl _) hn hn').mono ?_); rintro e w1 ⟨A1, c1, rfl, R1, hb1⟩; have hS1 : Below W.heap.size W w1 := Below.then_ hS hb1; have hT1 := hS1.mono hg.out; replace hb1 := hide hb1))
      | (go_at_call 94; ((with_reducible refine (signed_any _ _ (s) _ _ _ _ R1 (Nat.le_refl _)).mono ?_); rw [← hz0.out]; rintro e w2 ⟨A2, c2, rfl, R2, hb2⟩; have hS2 : Below W.heap.size W w2 := Below.then_ hS1 hb2; have hT2 := hS2.mono hg.out; replace hb2 := hide hb2)))
  have R_z := hide R2
  clear R2
  go_wp2
  exact bodyPost_ret (v := .agg #[.bool (zneg z), .slice A2 (dig (zmag z)).length c2]) (by simp [results, Try.results96, go_sem, c20 _ hS2, c21 _ hS2]) rfl (RetInt.box (hwW.out.trans (hS2.mono hwW.out.size)) (by omega) (c20 _ hS2) (c21 _ hS2) R_z.out)

set_option maxHeartbeats 4000000 in
theorem iadd_any_more (w : World) (Bd : Nat) (s s' : Bool) (A A' : Option Addr) (n c n' c' : Nat) (xs ys : List Nat) (h : Rd w Bd A n c xs) (h' : Rd w Bd A' n' c' ys) (hB : Bd ≤ w.heap.size) (hs : (s == s') = false) (hle : val ys ≤ val xs) :
    Calls Try.prog 96 #[.agg #[.bool s, .slice A n c], .agg #[.bool s', .slice A' n' c']] w (RetInt w (iv s (val xs - val ys))) := by
  obtain ⟨z, hz0⟩ : ∃ z, z = iv s (val xs - val ys) := ⟨_, rfl⟩
  rw [← hz0]
  replace hz0 := hide hz0
  replace hle := hide hle
  have H := hide h
  have H' := hide h'
  clear h h'
  obtain ⟨W, hW⟩ : ∃ W, W = (((w.alloc (.cells #[.bool s, .slice A n c] 25)).alloc (.cells #[.bool s', .slice A' n' c'] 25)).alloc (.cells #[.bool false, .slice none 0 0] 25)) := ⟨_, rfl⟩
  have b0 : Box W (w.heap.size) (.bool s) (.slice A n c) := by rw [hW]; exact (((Box.new w _ _ rfl).al _).al _)
  have b1 : Box W (w.heap.size + 1) (.bool s') (.slice A' n' c') := by rw [hW]; exact ((Box.new _ _ _ (by simp)).al _)
  have b2 : Box W (w.heap.size + 1 + 1) (.bool false) (.slice none 0 0) := by rw [hW]; exact (Box.new _ _ _ (by simp))
  have hwW : Below w.heap.size w W := by rw [hW]; exact ((((Below.refl _ _).alloc (Nat.le_refl _) _).alloc (by simp) _).alloc (by simp; omega) _)
  have hsz : W.heap.size = w.heap.size + 3 := by rw [hW]; simp
  replace hsz := hide hsz
  go_enter Try.func96, Try.ntmps96
  go_wp2_with fail
  rw [← hW]
  clear hW
  have hg : w.heap.size + 1 + 1 ≤ W.heap.size := by have := hsz.out; omega
  have c00 := b0.at0 (B := w.heap.size + 1 + 1) (by omega) hg
  have c01 := b0.at1 (B := w.heap.size + 1 + 1) (by omega) hg
  have c10 := b1.at0 (B := w.heap.size + 1 + 1) (by omega) hg
  have c11 := b1.at1 (B := w.heap.size + 1 + 1) (by omega) hg
  have c20 := b2.at0 b2.lt_size (Nat.le_refl _)
  have c21 := b2.at1 b2.lt_size (Nat.le_refl _)
  have f20 := b2.free0 b2.lt_size (Nat.le_refl _)
  have f21 := b2.free1 b2.lt_size (Nat.le_refl _)
  have l2 := b2.lt b2.lt_size (Nat.le_refl _)
  have hS0 : Below W.heap.size W W := Below.refl _ _
  have hT0 := hS0.mono hg
  replace hg := hide hg
  replace hwW := hide hwW
  replace b0 := hide b0
  replace b1 := hide b1
  replace b2 := hide b2
  have hx : ∀ w', Below W.heap.size W w' → Rd w' w'.heap.size A n c xs := fun w' hS => H.out.there hB hwW.out hS
  have hy : ∀ w', Below W.heap.size W w' → Rd w' w'.heap.size A' n' c' ys := fun w' hS => H'.out.there hB hwW.out hS
  replace hx := hide hx
  replace hy := hide hy
  go_wp2_with fail
  refine (sub_more _ _ A A' n c n' c' xs ys (hx.out _ hS0) (hy.out _ hS0) (Nat.le_refl _) hle.out).mono ?_
  rintro e w1 ⟨A1, c1, rfl, R1, hb1⟩
  have hS1 : Below W.heap.size W w1 := Below.then_ hS0 hb1
  have hT1 := hS1.mono hg.out
  replace hb1 := hide hb1
  replace R1 := hide R1
  go_wp2_with fail
  refine (signed_any _ _ (s) _ _ _ _ R1.out (Nat.le_refl _)).mono ?_
  rw [← hz0.out]
  rintro e w2 ⟨A2, c2, rfl, R2, hb2⟩
  have hS2 : Below W.heap.size W w2 := Below.then_ hS1 hb2
  have hT2 := hS2.mono hg.out
  replace hb2 := hide hb2
  have R_z := hide R2
  clear R2
  go_wp2
  exact bodyPost_ret (v := .agg #[.bool (zneg z), .slice A2 (dig (zmag z)).length c2]) (by simp [results, Try.results96, go_sem, c20 _ hS2, c21 _ hS2]) rfl (RetInt.box (hwW.out.trans (hS2.mono hwW.out.size)) (by omega) (c20 _ hS2) (c21 _ hS2) R_z.out)

set_option maxHeartbeats 4000000 in
theorem iadd_any_less (w : World) (Bd : Nat) (s s' : Bool) (A A' : Option Addr) (n c n' c' : Nat) (xs ys : List Nat) (h : Rd w Bd A n c xs) (h' : Rd w Bd A' n' c' ys) (hB : Bd ≤ w.heap.size) (hs : (s == s') = false) (hle : val xs < val ys) :
    Calls Try.prog 96 #[.agg #[.bool s, .slice A n c], .agg #[.bool s', .slice A' n' c']] w (RetInt w (iv s' (val ys - val xs))) := by
  obtain ⟨z, hz0⟩ : ∃ z, z = iv s' (val ys - val xs) := ⟨_, rfl⟩
  rw [← hz0]
  replace hz0 := hide hz0
  replace hle := hide hle
  have H := hide h
  have H' := hide h'
  clear h h'
  obtain ⟨W, hW⟩ : ∃ W, W = (((w.alloc (.cells #[.bool s, .slice A n c] 25)).alloc (.cells #[.bool s', .slice A' n' c'] 25)).alloc (.cells #[.bool false, .slice none 0 0] 25)) := ⟨_, rfl⟩
  have b0 : Box W (w.heap.size) (.bool s) (.slice A n c) := by rw [hW]; exact (((Box.new w _ _ rfl).al _).al _)
  have b1 : Box W (w.heap.size + 1) (.bool s') (.slice A' n' c') := by rw [hW]; exact ((Box.new _ _ _ (by simp)).al _)
  have b2 : Box W (w.heap.size + 1 + 1) (.bool false) (.slice none 0 0) := by rw [hW]; exact (Box.new _ _ _ (by simp))
  have hwW : Below w.heap.size w W := by rw [hW]; exact ((((Below.refl _ _).alloc (Nat.le_refl _) _).alloc (by simp) _).alloc (by simp; omega) _)
  have hsz : W.heap.size = w.heap.size + 3 := by rw [hW]; simp
  replace hsz := hide hsz
  go_enter Try.func96, Try.ntmps96
  go_wp2_with fail
  rw [← hW]
  clear hW
  have hg : w.heap.size + 1 + 1 ≤ W.heap.size := by have := hsz.out; omega
  have c00 := b0.at0 (B := w.heap.size + 1 + 1) (by omega) hg
  have c01 := b0.at1 (B := w.heap.size + 1 + 1) (by omega) hg
  have c10 := b1.at0 (B := w.heap.size + 1 + 1) (by omega) hg
  have c11 := b1.at1 (B := w.heap.size + 1 + 1) (by omega) hg
  have c20 := b2.at0 b2.lt_size (Nat.le_refl _)
  have c21 := b2.at1 b2.lt_size (Nat.le_refl _)
  have f20 := b2.free0 b2.lt_size (Nat.le_refl _)
  have f21 := b2.free1 b2.lt_size (Nat.le_refl _)
  have l2 := b2.lt b2.lt_size (Nat.le_refl _)
  have hS0 : Below W.heap.size W W := Below.refl _ _
  have hT0 := hS0.mono hg
  replace hg := hide hg
  replace hwW := hide hwW
  replace b0 := hide b0
  replace b1 := hide b1
  replace b2 := hide b2
  have hx : ∀ w', Below W.heap.size W w' → Rd w' w'.heap.size A n c xs := fun w' hS => H.out.there hB hwW.out hS
  have hy : ∀ w', Below W.heap.size W w' → Rd w' w'.heap.size A' n' c' ys := fun w' hS => H'.out.there hB hwW.out hS
  replace hx := hide hx
  replace hy := hide hy
  go_wp2_with fail
  refine (sub_less _ _ A A' n c n' c' xs ys (hx.out _ hS0) (hy.out _ hS0) hle.out).mono ?_
  rintro e w1 ⟨A1, c1, rfl, R1, hb1⟩
  have hS1 : Below W.heap.size W w1 := Below.then_ hS0 hb1
  have hT1 := hS1.mono hg.out
  replace hb1 := hide hb1
  clear R1
  go_wp2_with fail
  refine (sub_more _ _ A' A n' c' n c ys xs (hy.out _ hS1) (hx.out _ hS1) (Nat.le_refl _) (Nat.le_of_lt hle.out)).mono ?_
  rintro e w2 ⟨A2, c2, rfl, R2, hb2⟩
  have hS2 : Below W.heap.size W w2 := Below.then_ hS1 hb2
  have hT2 := hS2.mono hg.out
  replace hb2 := hide hb2
  replace R2 := hide R2
  go_wp2_with fail
  refine (signed_any _ _ (s') _ _ _ _ R2.out (Nat.le_refl _)).mono ?_
  rw [← hz0.out]
  rintro e w3 ⟨A3, c3, rfl, R3, hb3⟩
  have hS3 : Below W.heap.size W w3 := Below.then_ hS2 hb3
  have hT3 := hS3.mono hg.out
  replace hb3 := hide hb3
  have R_z := hide R3
  clear R3
  go_wp2
  exact bodyPost_ret (v := .agg #[.bool (zneg z), .slice A3 (dig (zmag z)).length c3]) (by simp [results, Try.results96, go_sem, c20 _ hS3, c21 _ hS3]) rfl (RetInt.box (hwW.out.trans (hS3.mono hwW.out.size)) (by omega) (c20 _ hS3) (c21 _ hS3) R_z.out)

theorem iadd_any (w : World) (Bd : Nat) (s s' : Bool) (A A' : Option Addr) (n c n' c' : Nat) (xs ys : List Nat) (h : Rd w Bd A n c xs) (h' : Rd w Bd A' n' c' ys) (hB : Bd ≤ w.heap.size) (hn : n + 1 ≤ 70368744177664) (hn' : n' + 1 ≤ 70368744177664) :
    Calls Try.prog 96 #[.agg #[.bool s, .slice A n c], .agg #[.bool s', .slice A' n' c']] w (RetInt w (iv s (val xs) + iv s' (val ys))) := by
  by_cases hs : s = s'
  · subst hs
    rw [iv_add_same]
    exact iadd_any_same w Bd s A A' n c n' c' xs ys h h' hB hn hn'
  · have hs' : (s == s') = false := by simpa using hs
    by_cases hle : val ys ≤ val xs
    · rw [iv_add_more hs hle]
      exact iadd_any_more w Bd s s' A A' n c n' c' xs ys h h' hB hs' hle
    · rw [iv_add_less hs (Nat.le_of_lt (Nat.lt_of_not_le hle))]
      exact iadd_any_less w Bd s s' A A' n c n' c' xs ys h h' hB hs' (Nat.lt_of_not_le hle)

end
end Go.Proofs.Ytdihgmbldnekhaa
