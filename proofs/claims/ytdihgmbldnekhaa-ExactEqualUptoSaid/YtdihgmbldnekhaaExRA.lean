/-
  Same, ExA, ExB, ExC, ExD, ExE.
-/
import Derived.Test.YtdihgmbldnekhaaNatMem
import Derived.Test.YtdihgmbldnekhaaRatN
import Derived.Deep.RegionWith
namespace Go.Proofs.Ytdihgmbldnekhaa
section
open Go.RowKit

set_option maxHeartbeats 1000000 in
theorem same_true (w : World) (Bd Bd' : Nat) (A A' : Option Addr) (n c n' c' : Nat) (xs ys : List Nat) (hx : Rd w Bd A n c xs) (hy : Rd w Bd' A' n' c' ys) (he : xs = ys) :
    Calls Try.prog 89 #[.slice A n c, .slice A' n' c'] w (RetQ w (.bool true)) := by
  subst he
  obtain rfl : n = n' := by rw [← hx.len, ← hy.len]
  have hcap := hx.cap
  have hbig := hx.big
  have hcap' := hy.cap
  have hbig' := hy.big
  have HX := hide hx
  have HY := hide hy
  clear hx hy
  go_enter Try.func89, Try.ntmps89
  go_wp2
  go_loopw [5] (fun i wr => ∃ k : Nat, k ≤ n ∧ i = .int .i64 k ∧ ∃ q, wr = w.drewN q) (fun i _ => n - (intOf i).toNat)
  case atStart => exact ⟨0, Nat.zero_le _, rfl, 0, rfl⟩
  case round =>
    obtain ⟨k, hk, rfl, q, rfl⟩ := hrel
    by_cases hkl : k < n
    · obtain ⟨ad, rfl, hadb, hca⟩ := HX.out.at_ hkl
      obtain ⟨ad', rfl, hadb', hca'⟩ := HY.out.at_ hkl
      go_wp2_with fail
      go_quiet (fail)
      go_wp2
      go_roundw
      case rel => exact ⟨k + 1, by omega, by go_num, _, rfl⟩
      case measure => simp [intOf]; omega
    · have hkm : k = n := by omega
      subst hkm
      go_wp2
      go_ret
      exact ⟨rfl, q, rfl⟩
end

section
open Go.RowKit

theorem wrap_nat {z : Int} {m : Nat} (hz : z = (m : Int)) (hm : m < 9223372036854775808) : IntKind.u64.wrap z = (m : Int) := by
  subst hz
  simp only [IntKind.wrap, IntKind.bits, IntKind.signed]
  simp
  omega
theorem num_nat (n : Nat) : ((n : Rat)).num = (n : Int) ∧ ((n : Rat)).den = 1 := ⟨by simp, by simp⟩
theorem Rd.one1 (w : World) : Rd (w.alloc (Obj.cells #[Value.int IntKind.u32 1] 39)) (w.alloc (Obj.cells #[Value.int IntKind.u32 1] 39)).heap.size (some ⟨w.heap.size, 0, none⟩) 1 1 (dig 1) := by
  rw [dig_one]
  refine ⟨rfl, fun k => ?_, by omega, by omega, by omega, fun _ => ⟨_, rfl, by simp, fun j hj => ?_⟩⟩
  · match k with
    | 0 => simp [lm]
    | k + 1 => simp [lm]
  · obtain rfl : j = 0 := by omega
    rw [add_zero_, cell_of_row _ _ 0 _ _ (0, 0) (heap_alloc_new w _)]
    simp [lm]
/-- a natural number as a ratio: made of its limbs and the limb 1 -/
theorem Nq.whole {w : World} {A B : Option Addr} {n c d : Nat} {m : Nat} (hA : Rd w w.heap.size A n c (dig m)) (hB : Rd w w.heap.size B 1 d (dig 1)) (hm : m < 18446744073709551616) : Nq w w.heap.size 3 ⟨false, A, n, c, B, 1, d⟩ (m : Rat) := by
  obtain ⟨h1, h2⟩ := num_nat m
  have hl : n ≤ 2 := by
    rw [← hA.len]
    refine (dig_len_le _ _).2 ?_
    have : pw 2 = 18446744073709551616 := by decide
    omega
  refine ⟨?_, ?_, ?_, by show n ≤ 3; omega, by show 1 ≤ 3; omega⟩
  · rw [h1]; simp [zneg]
  · rw [h1]
    have e : zmag (m : Int) = m := by simp [zmag]
    rw [e]; exact hA
  · rw [h2]; exact hB
theorem sgnq_neg {q : Rat} : sgn q.num < 0 ↔ q < 0 := by
  have h := cmp_lt (p := q) (q := 0)
  rw [show q - 0 = q by grind] at h
  exact h
/-- a sum in a box of the call's own -/
structure SumQ (w wr : World) (L g : Nat) (y : Rc) (s : Rat) : Prop where
  below : Below w.heap.size w wr
  box : Box3 wr g (.bool y.s) (.slice y.A y.n y.c) (.slice y.B y.m y.d)
  num : Nq wr wr.heap.size L y s
  ge : w.heap.size ≤ g
theorem SumQ.start {w w1 : World} {L : Nat} {y : Rc} {s : Rat} (hb : Below w.heap.size w w1) (R : Nq w1 w1.heap.size L y s) : SumQ w (w1.alloc (.cells #[.bool y.s, .slice y.A y.n y.c, .slice y.B y.m y.d] 27)) L w1.heap.size y s :=
  ⟨Below.al_ hb _, Box3.new w1 _ _ _ rfl, R.al_ _, hb.size⟩
theorem SumQ.then_ {w wr w5 : World} {L g : Nat} {y : Rc} {s : Rat} (h : SumQ w wr L g y s) (hb : Below wr.heap.size wr w5) : SumQ w w5 L g y s :=
  ⟨Below.then_ h.below hb, h.box.keep hb, h.num.then_ hb, h.ge⟩
theorem SumQ.le {w wr : World} {L M g : Nat} {y : Rc} {s : Rat} (h : SumQ w wr L g y s) (hl : L ≤ M) : SumQ w wr M g y s := ⟨h.below, h.box, h.num.le hl, h.ge⟩
theorem SumQ.set {w wr w5 : World} {L M g : Nat} {y z : Rc} {s r : Rat} (h : SumQ w wr L g y s) (hb : Below wr.heap.size wr w5) (R : Nq w5 w5.heap.size M z r) :
    SumQ w (((w5.setCell ⟨g, 0, none⟩ (.bool z.s)).setCell ⟨g, 1, none⟩ (.slice z.A z.n z.c)).setCell ⟨g, 2, none⟩ (.slice z.B z.m z.d)) M g z r := by
  have h5 := h.then_ hb
  have c0 := h5.box.at0 h5.box.lt_size (Nat.le_refl _) _ (Below.refl _ _)
  have c1 := h5.box.at1 h5.box.lt_size (Nat.le_refl _) _ (Below.refl _ _)
  have c2 := h5.box.at2 h5.box.lt_size (Nat.le_refl _) _ (Below.refl _ _)
  exact ⟨((h5.below.setCell h.ge _).setCell h.ge _).setCell h.ge _, Box3.set h5.box _ _ _, by simpa using R.set3 (y := y) c0 c1 c2 (.bool z.s) (.slice z.A z.n z.c) (.slice z.B z.m z.d), h.ge⟩
/-- what a distribution is -/
def VldQ (n : Nat) (q : Nat → Rat) : Prop := (1 ≤ n ∧ n ≤ 121) ∧ (∀ i, i < n → 0 ≤ q i) ∧ qs q n = 1
noncomputable def vlB (n : Nat) (q : Nat → Rat) : Bool := @decide (VldQ n q) (Classical.propDecidable _)
theorem vl_yes {n : Nat} {q : Nat → Rat} (h : VldQ n q) : vlB n q = true := by simp [vlB, h]
theorem vl_no {n : Nat} {q : Nat → Rat} (h : ¬ VldQ n q) : vlB n q = false := by simp [vlB, h]
theorem vl_last {n : Nat} {q : Nat → Rat} (hn : 1 ≤ n ∧ n ≤ 121) (h : ∀ i, i < n → 0 ≤ q i) : vlB n q = ((sgn (qs q n - 1).num : Int) == 0) := by
  by_cases e : qs q n = 1
  · rw [vl_yes ⟨hn, h, e⟩, e]
    have : sgn ((1 : Rat) - 1).num = 0 := by
      rw [show (1 : Rat) - 1 = 0 by grind]
      simp [sgn]
    rw [this]; rfl
  · rw [vl_no fun h2 => e h2.2.2]
    have h1 : ¬ sgn (qs q n - 1).num = 0 := fun h3 => by
      have h4 := cmp_le (p := qs q n) (q := 1)
      have h5 := cmp_lt (p := qs q n) (q := 1)
      have h6 := h4.1 (by omega)
      have h7 : ¬ qs q n < 1 := fun h8 => by have := h5.2 h8; omega
      grind
    symm
    simpa using h1
end

section
open Go.RowKit

theorem Rq.al_drew {w : World} {L : Nat} {x : Rc} {q : Rat} (h : Rq w.drew w.drew.heap.size L x q) (o : Obj) : Rq (w.alloc o).drew (w.alloc o).drew.heap.size L x q := Rq.al_ (w := w.drew) h o
theorem Nq.al_drew {w : World} {L : Nat} {x : Rc} {q : Rat} (h : Nq w.drew w.drew.heap.size L x q) (o : Obj) : Nq (w.alloc o).drew (w.alloc o).drew.heap.size L x q := Nq.al_ (w := w.drew) h o
/-- the box with the ratio in it -/
def LandN (W w' : World) (g L : Nat) (x : Rc) (q : Rat) : Prop :=
  Below W.heap.size W w' ∧ Box3 w' g (.bool x.s) (.slice x.A x.n x.c) (.slice x.B x.m x.d) ∧ Nq w' w'.heap.size L x q ∧ W.heap.size ≤ g
theorem LandN.below {W w' : World} {g L : Nat} {x : Rc} {q : Rat} (h : LandN W w' g L x q) : Below W.heap.size W w' := h.1
theorem landN_new {W w : World} {L : Nat} {x : Rc} {q : Rat} (h : Below W.heap.size W w) (R : Nq w w.heap.size L x q) : LandN W (w.alloc (.cells #[.bool x.s, .slice x.A x.n x.c, .slice x.B x.m x.d] 27)) w.heap.size L x q := ⟨Below.al_ h _, Box3.new w _ _ _ rfl, R.al_ _, h.size⟩
theorem landN_set {W w : World} {g L : Nat} {x : Rc} {q : Rat} (h : Below W.heap.size W w) (R : Nq w w.heap.size L x q) (X : XBox3 W w g) : LandN W (((w.setCell ⟨g, 0, none⟩ (.bool x.s)).setCell ⟨g, 1, none⟩ (.slice x.A x.n x.c)).setCell ⟨g, 2, none⟩ (.slice x.B x.m x.d)) g L x q := by
  obtain ⟨c0, c1, c2, _, _, _, _⟩ := X.facts
  exact ⟨((h.setCell X.2 _).setCell X.2 _).setCell X.2 _, Box3.set X.1 _ _ _, R.set3 (y := ⟨false, none, 0, 0, none, 0, 0⟩) c0 c1 c2 _ _ _, X.2⟩
theorem landN_late {W w : World} {L : Nat} {x : Rc} {q : Rat} (h : Below W.heap.size W w) (R : Nq w w.heap.size L x q) : LandN W ((((w.alloc (.cells #[.bool false, .slice none 0 0, .slice none 0 0] 27)).setCell ⟨w.heap.size, 0, none⟩ (.bool x.s)).setCell ⟨w.heap.size, 1, none⟩ (.slice x.A x.n x.c)).setCell ⟨w.heap.size, 2, none⟩ (.slice x.B x.m x.d)) w.heap.size L x q :=
  landN_set (Below.al_ h _) (R.al_ _) ⟨Box3.new w _ _ _ rfl, h.size⟩
/-- a sum in a box, beside the result's box -/
structure SumR (w wr : World) (L g : Nat) (y : Rc) (s : Rat) : Prop where
  sum : SumQ w wr L g y s
  res : Box3 wr w.heap.size (.bool false) (.slice none 0 0) (.slice none 0 0)
  lt : w.heap.size < g
theorem SumR.start {w w1 : World} {L : Nat} {y : Rc} {s : Rat} (hb : Below (w.alloc (.cells #[.bool false, .slice none 0 0, .slice none 0 0] 27)).heap.size (w.alloc (.cells #[.bool false, .slice none 0 0, .slice none 0 0] 27)) w1) (R : Nq w1 w1.heap.size L y s) :
    SumR w (w1.alloc (.cells #[.bool y.s, .slice y.A y.n y.c, .slice y.B y.m y.d] 27)) L w1.heap.size y s :=
  ⟨SumQ.start (Below.al_then hb) R, ((Box3.new w _ _ _ rfl).keep hb).al _, by have := hb.size; simp at this; omega⟩
theorem SumR.then_ {w wr w5 : World} {L g : Nat} {y : Rc} {s : Rat} (h : SumR w wr L g y s) (hb : Below wr.heap.size wr w5) : SumR w w5 L g y s := ⟨h.sum.then_ hb, h.res.keep hb, h.lt⟩
theorem SumR.le {w wr : World} {L M g : Nat} {y : Rc} {s : Rat} (h : SumR w wr L g y s) (hl : L ≤ M) : SumR w wr M g y s := ⟨h.sum.le hl, h.res, h.lt⟩
theorem SumR.set {w wr w5 : World} {L M g : Nat} {y z : Rc} {s r : Rat} (h : SumR w wr L g y s) (hb : Below wr.heap.size wr w5) (R : Nq w5 w5.heap.size M z r) :
    SumR w (((w5.setCell ⟨g, 0, none⟩ (.bool z.s)).setCell ⟨g, 1, none⟩ (.slice z.A z.n z.c)).setCell ⟨g, 2, none⟩ (.slice z.B z.m z.d)) M g z r :=
  have hne : w.heap.size ≠ g := Nat.ne_of_lt h.lt
  ⟨h.sum.set hb R, Box3.other (Box3.other (Box3.other (h.res.keep hb) hne _) hne _) hne _, h.lt⟩
theorem SumR.self {w wr : World} {L g : Nat} {y : Rc} {s : Rat} (_h : SumR w wr L g y s) : Below wr.heap.size wr wr := Below.refl _ _
/-- another box, that was made later -/
theorem SumR.beside {w wr : World} {L g h : Nat} {y z : Rc} {s : Rat} (hS : SumR w wr L g y s) {u : Rc} (hu : Box3 wr h (.bool u.s) (.slice u.A u.n u.c) (.slice u.B u.m u.d)) (hg : g < h) :
    SumR w (((wr.setCell ⟨h, 0, none⟩ (.bool z.s)).setCell ⟨h, 1, none⟩ (.slice z.A z.n z.c)).setCell ⟨h, 2, none⟩ (.slice z.B z.m z.d)) L g y s := by
  have c0 := hu.at0 hu.lt_size (Nat.le_refl _) _ (Below.refl _ _)
  have c1 := hu.at1 hu.lt_size (Nat.le_refl _) _ (Below.refl _ _)
  have c2 := hu.at2 hu.lt_size (Nat.le_refl _) _ (Below.refl _ _)
  have h1 := hS.lt
  have hge : w.heap.size ≤ h := by omega
  have ng : g ≠ h := by omega
  have nr : w.heap.size ≠ h := by omega
  exact ⟨⟨((hS.sum.below.setCell hge _).setCell hge _).setCell hge _, Box3.other (Box3.other (Box3.other hS.sum.box ng _) ng _) ng _, by simpa using hS.sum.num.set3 (y := u) c0 c1 c2 (.bool z.s) (.slice z.A z.n z.c) (.slice z.B z.m z.d), hS.sum.ge⟩,
    Box3.other (Box3.other (Box3.other hS.res nr _) nr _) nr _, hS.lt⟩
/-- the summand -/
def mq (d : Nat) (q : Nat → Rat) (i : Nat) : Rat := if d = 2 then q i * (i : Rat) * (i : Rat) else q i * (i : Rat)
end

section
open Go.RowKit

theorem same_c {w : World} {Bd Bd' : Nat} {A A' : Option Addr} {n c n' c' : Nat} {xs : List Nat} (hx : Rd w Bd A n c xs) (hy : Rd w Bd' A' n' c' xs) : Calls Try.prog 89 #[.slice A n c, .slice A' n' c'] w (RetB w (.bool true)) :=
  (same_true w Bd Bd' A A' n c n' c' xs xs hx hy rfl).mono fun e w' ⟨h1, q, h2⟩ => ⟨h1, by rw [h2]; exact below_drewN (Below.refl _ _) q⟩
set_option maxHeartbeats 4000000 in
theorem sameint_c {w : World} {Bd : Nat} {A A' : Option Addr} {n c n' c' : Nat} {xs : List Nat} {s : Bool} (hx : Rd w Bd A n c xs) (hy : Rd w Bd A' n' c' xs) (hB : Bd ≤ w.heap.size) :
    Calls Try.prog 88 #[.agg #[.bool s, .slice A n c], .agg #[.bool s, .slice A' n' c']] w (RetB w (.bool true)) := by
  obtain ⟨W, hW⟩ : ∃ W, W = ((w.alloc (.cells #[.bool s, .slice A n c] 25)).alloc (.cells #[.bool s, .slice A' n' c'] 25)) := ⟨_, rfl⟩
  have b_a : Box W (w.heap.size) (.bool s) (.slice A n c) := by rw [hW]; exact ((Box.new w _ _ rfl).al _)
  have b_b : Box W (w.heap.size + 1) (.bool s) (.slice A' n' c') := by rw [hW]; exact (Box.new _ _ _ (by simp))
  have hwW : Below w.heap.size w W := by rw [hW]; exact (((Below.refl _ _).alloc (Nat.le_refl _) _).alloc (by simp) _)
  have U0 : Below W.heap.size W W := Below.refl _ _
  have c_a0 := b_a.at0 b_a.lt_size (Nat.le_refl _)
  have c_a1 := b_a.at1 b_a.lt_size (Nat.le_refl _)
  clear b_a
  have c_b0 := b_b.at0 b_b.lt_size (Nat.le_refl _)
  have c_b1 := b_b.at1 b_b.lt_size (Nat.le_refl _)
  clear b_b
  have R_a := hide (Rd.upto hx hwW hB)
  have R_b := hide (Rd.upto hy hwW hB)
  have B := hide hwW
  clear hx hy hwW hB
  go_enter Try.func88, Try.ntmps88
  go_wp2_with fail
  rw [← hW]
  clear hW
  refine (same_c R_a.out R_b.out).mono ?_
  rintro e w1 ⟨rfl, hb⟩
  replace B := hide (Below.then_ B.out hb)
  clear hb
  go_wp2
  go_ret
  exact ⟨rfl, B.out⟩
/-- two ratios of the same sign and limbs -/
def Alike3 (w : World) (Bd : Nat) (x y : Rc) : Prop := x.s = y.s ∧ ∃ xs ys, Rd w Bd x.A x.n x.c xs ∧ Rd w Bd y.A y.n y.c xs ∧ Rd w Bd x.B x.m x.d ys ∧ Rd w Bd y.B y.m y.d ys
theorem Alike3.of_nq {w : World} {Bd L M : Nat} {x y : Rc} {q : Rat} (hx : Nq w Bd L x q) (hy : Nq w Bd M y q) : Alike3 w Bd x y := ⟨by rw [hx.1, hy.1], _, _, hx.2.1, hy.2.1, hx.2.2.1, hy.2.2.1⟩
theorem Alike3.upto {w w' : World} {Bd : Nat} {x y : Rc} (h : Alike3 w Bd x y) (hb : Below w.heap.size w w') (hB : Bd ≤ w.heap.size) : Alike3 w' w'.heap.size x y := by
  obtain ⟨h0, xs, ys, h1, h2, h3, h4⟩ := h
  exact ⟨h0, xs, ys, h1.upto hb hB, h2.upto hb hB, h3.upto hb hB, h4.upto hb hB⟩
set_option maxHeartbeats 4000000 in
theorem sameratio_c {w : World} {Bd : Nat} {x y : Rc} (h : Alike3 w Bd x y) (hB : Bd ≤ w.heap.size) :
    Calls Try.prog 58 #[.agg #[.bool x.s, .slice x.A x.n x.c, .slice x.B x.m x.d], .agg #[.bool y.s, .slice y.A y.n y.c, .slice y.B y.m y.d]] w (RetB w (.bool true)) := by
  obtain ⟨s, A, n, c, A2, m, d⟩ := x
  obtain ⟨s', A', n', c', A2', m', d'⟩ := y
  obtain ⟨h0, xs, ys, h1, h2, h3, h4⟩ := h
  simp only at h0 h1 h2 h3 h4 ⊢
  subst h0
  obtain ⟨W, hW⟩ : ∃ W, W = ((w.alloc (.cells #[.bool s, .slice A n c, .slice A2 m d] 27)).alloc (.cells #[.bool s, .slice A' n' c', .slice A2' m' d'] 27)) := ⟨_, rfl⟩
  have b_a : Box3 W (w.heap.size) (.bool s) (.slice A n c) (.slice A2 m d) := by rw [hW]; exact ((Box3.new w _ _ _ rfl).al _)
  have b_b : Box3 W (w.heap.size + 1) (.bool s) (.slice A' n' c') (.slice A2' m' d') := by rw [hW]; exact (Box3.new _ _ _ _ (by simp))
  have hwW : Below w.heap.size w W := by rw [hW]; exact (((Below.refl _ _).alloc (Nat.le_refl _) _).alloc (by simp) _)
  have U0 : Below W.heap.size W W := Below.refl _ _
  have c_a0 := b_a.at0 b_a.lt_size (Nat.le_refl _)
  have c_a1 := b_a.at1 b_a.lt_size (Nat.le_refl _)
  have c_a2 := b_a.at2 b_a.lt_size (Nat.le_refl _)
  clear b_a
  have c_b0 := b_b.at0 b_b.lt_size (Nat.le_refl _)
  have c_b1 := b_b.at1 b_b.lt_size (Nat.le_refl _)
  have c_b2 := b_b.at2 b_b.lt_size (Nat.le_refl _)
  clear b_b
  have R_a := hide (Rd.upto h1 hwW hB)
  have R_b := hide (Rd.upto h2 hwW hB)
  have S_a := hide (Rd.upto h3 hwW hB)
  have S_b := hide (Rd.upto h4 hwW hB)
  have B := hide hwW
  clear h1 h2 h3 h4 hwW hB
  go_enter Try.func58, Try.ntmps58
  go_wp2_with fail
  rw [← hW]
  clear hW
  refine (sameint_c R_a.out R_b.out (Nat.le_refl _)).mono ?_
  rintro e w1 ⟨rfl, hb⟩
  replace B := hide (Below.then_ B.out hb)
  replace S_a := hide (Rd.then_ S_a.out hb)
  replace S_b := hide (Rd.then_ S_b.out hb)
  have U1 : Below W.heap.size W w1 := Below.then_ U0 hb
  clear hb R_a R_b
  go_wp2_with fail
  refine (same_c S_a.out S_b.out).mono ?_
  rintro e w2 ⟨rfl, hb⟩
  replace B := hide (Below.then_ B.out hb)
  clear hb
  go_wp2
  go_ret
  exact ⟨rfl, B.out⟩
theorem LQ.all {nf : Nat → Bool} {w : World} {L n c : Nat} {A : Option Addr} {X : Nat → Rc} {q : Nat → Rat} (h : LQ nf w w.heap.size L A n c X q) {i : Nat} (hi : i < n) : ∃ ad, A = some ad ∧ ad.block < w.heap.size ∧ (∀ w', Below w.heap.size w w' → w'.cell? (ad.add (i * 3)) = some (.bool (X i).s)) ∧
    (∀ w', Below w.heap.size w w' → w'.cell? ⟨(ad.add (i * 3)).block, (ad.add (i * 3)).off + 1, none⟩ = some (.slice (X i).A (X i).n (X i).c)) ∧ (∀ w', Below w.heap.size w w' → w'.cell? ⟨(ad.add (i * 3)).block, (ad.add (i * 3)).off + 2, none⟩ = some (.slice (X i).B (X i).m (X i).d)) := by
  obtain ⟨ad, e, hab, e0, e1, e2⟩ := h.at_ hi
  have hb' : (ad.add (i * 3)).block < w.heap.size := by rw [block_add]; exact hab
  exact ⟨ad, e, hab, fun w' hb => (hb.cell (p := ad.add (i * 3)) hb').trans e0, fun w' hb => (hb.cell (p := ⟨(ad.add (i * 3)).block, (ad.add (i * 3)).off + 1, none⟩) hb').trans e1, fun w' hb => (hb.cell (p := ⟨(ad.add (i * 3)).block, (ad.add (i * 3)).off + 2, none⟩) hb').trans e2⟩
set_option maxHeartbeats 8000000 in
set_option maxRecDepth 100000 in
theorem samelist_c {w : World} {Bd L M n c c' : Nat} {A A' : Option Addr} {X Y : Nat → Rc} {q r : Nat → Rat} (hx : LQ (fun _ => true) w Bd L A n c X q) (hy : LQ (fun _ => true) w Bd M A' n c' Y r) (hB : Bd ≤ w.heap.size) (hq : ∀ i, i < n → q i = r i) (hn : n ≤ 1000000) :
    Calls Try.prog 16 #[.slice A n c, .slice A' n c'] w (RetB w (.bool true)) := by
  have hcap := hx.cap
  have hcb := hx.cbig
  have hcap' := hy.cap
  have hcb' := hy.cbig
  have HX := hide (hx.upto (Below.refl _ _) hB)
  have HY := hide (hy.upto (Below.refl _ _) hB)
  have B := hide (Below.refl w.heap.size w)
  replace hq := hide hq
  clear hx hy hB
  go_enter Try.func16, Try.ntmps16
  go_wp2
  go_loopw [5] (fun i wr => ∃ (k : Nat), k ≤ n ∧ i = .int .i64 k ∧ Hid (Below w.heap.size w wr)) (fun i _ => n - (intOf i).toNat)
  case atStart => exact ⟨0, Nat.zero_le _, rfl, B⟩
  case round =>
    obtain ⟨k, hk, rfl, B2⟩ := hrel
    clear B
    by_cases hkl : k < n
    · have HW := HX.out.then_ B2.out
      have HV := HY.out.then_ B2.out
      obtain ⟨ad, hA, hab, E0, E1, E2⟩ := HW.all hkl
      obtain ⟨ad', hA', hab', F0, F1, F2⟩ := HV.all hkl
      subst hA hA'
      have hk64 : (k : Int) < (n : Int) := by omega
      have hal := hide (Alike3.of_nq ((HW.nums k hkl).nq) (by have h := (HV.nums k hkl).nq; rw [← hq.out k hkl] at h; exact h))
      have hbx := Below.drw_ wr
      clear HW HV hab hab'
      go_wp2_with fail
      go_region_with (go_at_call 58; refine (sameratio_c (hal.out.upto hbx (Nat.le_refl _)) (Nat.le_refl _)).mono ?_; rintro e w6 ⟨rfl, hb6⟩; have hN := hide (Below.then_ B2.out (Below.then_ hbx hb6)); clear hb6)
      all_goals
        go_wp2
        go_roundw
        case rel => exact ⟨k + 1, by omega, by go_num, hN⟩
        case measure => simp [intOf]; omega
    · obtain rfl : k = n := by omega
      go_wp2
      go_ret
      exact ⟨rfl, B2.out⟩
end

section
open Go.RowKit

/-- no more than n elements -/
def ex (n : Nat) (q : Nat → Rat) (i : Nat) : Rat := if i < n then q i else 0
/-- the sum of the first j products for element k -/
def pt (na nb : Nat) (a b : Nat → Rat) (k j : Nat) : Rat := qs (fun i => ex na a i * ex nb b (k - i)) j
theorem pt_in {na nb : Nat} {a b : Nat → Rat} {k j : Nat} (hj : j < na) (hk : k - j < nb) : pt na nb a b k j + a j * b (k - j) = pt na nb a b k (j + 1) := by
  rw [pt, pt, qs_succ]
  simp [ex, hj, hk]
theorem pt_out {na nb : Nat} {a b : Nat → Rat} {k j : Nat} (hk : ¬ k - j < nb) : pt na nb a b k j = pt na nb a b k (j + 1) := by
  rw [pt, pt, qs_succ]
  simp only [ex, if_neg hk]
  grind
theorem pt_end {na nb : Nat} {a b : Nat → Rat} {k j : Nat} (h : j = k + 1 ∨ (j = na ∧ j ≤ k + 1)) : pt na nb a b k j = cv (ex na a) (ex nb b) k := by
  unfold pt cv
  rcases h with rfl | ⟨rfl, h⟩
  · rfl
  · symm
    exact qs_tail h fun i h1 _ => by simp [ex, show ¬ i < j by omega]
theorem upd_upd {α : Type} (X : Nat → α) (k : Nat) (x y : α) : upd (upd X k x) k y = upd X k y := by
  funext i
  unfold upd
  split <;> rfl
theorem upd_self {α : Type} (X : Nat → α) (k : Nat) : upd X k (X k) = X := by
  funext i
  unfold upd
  split
  · rename_i h; rw [h]
  · rfl
theorem OwnQ.all {nf : Nat → Bool} {w : World} {B L n c g k : Nat} {X : Nat → Rc} {q : Nat → Rat} (h : OwnQ nf w B L (.slice (some ⟨g, 0, none⟩) n c) n X q) (hk : k < n) :
    (∀ w', Below w.heap.size w w' → w'.cell? ⟨g, k * 3, none⟩ = some (.bool (X k).s)) ∧ (∀ w', Below w.heap.size w w' → w'.cell? ⟨g, k * 3 + 1, none⟩ = some (.slice (X k).A (X k).n (X k).c)) ∧ (∀ w', Below w.heap.size w w' → w'.cell? ⟨g, k * 3 + 2, none⟩ = some (.slice (X k).B (X k).m (X k).d)) ∧
    (∀ j w', Below w.heap.size w w' → w'.frozen? ⟨g, j, none⟩ = false) ∧ (∀ w', Below w.heap.size w w' → g < w'.heap.size) :=
  ⟨fun _ hb => ((h.then_ hb).cell hk).1, fun _ hb => ((h.then_ hb).cell hk).2.1, fun _ hb => ((h.then_ hb).cell hk).2.2, fun j _ hb => (h.then_ hb).frozen j, fun _ hb => Nat.lt_of_lt_of_le (h.lt rfl).2 hb.size⟩
end

section
open Go.RowKit

theorem vl_len {n : Nat} {q : Nat → Rat} (h : vlB n q = true) : VldQ n q := by
  by_cases e : VldQ n q
  · exact e
  · rw [vl_no e] at h; cases h
/-- a list and an error were handed back -/
def RetLE (w : World) (L n : Nat) (z : Nat → Rat) (k : Int) (e : Ending) (w' : World) : Prop :=
  ∃ (A : Option Addr) (c : Nat) (Z : Nat → Rc) (y : Nat → Rat), e = .returned (.tuple #[.slice A n c, .int .i64 k]) ∧ LQ (fun _ => true) w' w'.heap.size L A n c Z y ∧ (∀ i, i < n → y i = z i) ∧ Below w.heap.size w w'
theorem le_nil {w w' : World} {L : Nat} {z : Nat → Rat} {k : Int} (B : Below w.heap.size w w') : RetLE w L 0 z k (.returned (.tuple #[.slice none 0 0, .int .i64 k])) w' :=
  ⟨none, 0, fun _ => zeroRc, fun _ => 0, rfl, LQ.empty _ _ _ _ _ (by omega) _ _, fun i hi => by omega, B⟩
/-- Convolve's error and length -/
def cvK (ra rb : Bool) (na nb : Nat) : Int × Nat := if ra = true ∧ rb = true then (if 121 < na + nb - 1 then (5, 0) else (0, na + nb - 1)) else (1, 0)
end
end Go.Proofs.Ytdihgmbldnekhaa
