/-
  What a ratio is in memory: numerator and denominator by value (three cells); what a call hands back. zero, reduced, times of ratio.
-/
import Derived.Test.YtieopcchchebgaaIntC
import Derived.Test.YtieopcchchebgaaRInt3
import Derived.Test.YtieopcchchebgaaNatGcd
namespace Go.Proofs.Ytieopcchchebgaa
open Go.RowKit

/-- the number with that numerator (sign, magnitude) and that denominator; 0 where that is 0 -/
def qv (s : Bool) (m d : Nat) : Rat := mkRat (iv s m) d
theorem qv_eta (q : Rat) : qv (zneg q.num) (val (dig (zmag q.num))) (val (dig q.den)) = q := by
  unfold qv; rw [val_dig, val_dig, iv_eta, Rat.mkRat_self]
theorem qv_zero (s : Bool) (m : Nat) : qv s m 0 = 0 := Rat.mkRat_zero _
theorem iv_natAbs (s : Bool) (m : Nat) : (iv s m).natAbs = m := zmag_iv s m
theorem iv_div (s : Bool) {m g : Nat} (h : g ∣ m) : iv s m / (g : Int) = iv s (m / g) := by
  obtain ⟨k, rfl⟩ := h
  rcases Nat.eq_zero_or_pos g with rfl | hg
  · simp [iv_zero]
  · rw [Nat.mul_div_cancel_left _ hg]
    cases s
    · rw [iv_false, iv_false, Int.natCast_mul, Int.mul_ediv_cancel_left _ (by omega)]
    · rw [iv_true, iv_true, Int.natCast_mul, ← Int.mul_neg, Int.mul_ediv_cancel_left _ (by omega)]
theorem qv_num (s : Bool) (m : Nat) {d : Nat} (h : d ≠ 0) : (qv s m d).num = iv s (m / Nat.gcd m d) := by
  unfold qv
  rw [Rat.num_mkRat, if_neg h, iv_natAbs, Nat.gcd_comm, iv_div s (Nat.gcd_dvd_left m d)]
theorem qv_den (s : Bool) (m : Nat) {d : Nat} (h : d ≠ 0) : (qv s m d).den = d / Nat.gcd m d := by
  unfold qv
  rw [Rat.den_mkRat, if_neg h, iv_natAbs, Nat.gcd_comm]

/-- what a block of three cells reads as -/
def Box3 (W : World) (g : Nat) (a b c : Value) : Prop := W.heap[g]? = some (.cells #[a, b, c] 27 (0, 0))
theorem box3_kept_at {w w2 : World} {a b c : Value} {g B : Nat} (hg : Box3 w g a b c) (hB : g < B) (hB' : B ≤ w.heap.size) (hb : Below B w w2) :
    w2.cell? ⟨g, 0, none⟩ = some a ∧ w2.cell? ⟨g, 1, none⟩ = some b ∧ w2.cell? ⟨g, 2, none⟩ = some c ∧ w2.frozen? ⟨g, 0, none⟩ = false ∧ w2.frozen? ⟨g, 1, none⟩ = false ∧ w2.frozen? ⟨g, 2, none⟩ = false ∧ g < w2.heap.size := by
  have hg2 : w2.heap[g]? = some (.cells #[a, b, c] 27 (0, 0)) := (hb.block g hB).trans hg
  refine ⟨?_, ?_, ?_, frozen_of_row w2 g 0 _ _ hg2, frozen_of_row w2 g 1 _ _ hg2, frozen_of_row w2 g 2 _ _ hg2, Nat.lt_of_lt_of_le hB (Nat.le_trans hB' hb.size)⟩
  · rw [cell_of_row w2 g 0 _ _ _ hg2]; rfl
  · rw [cell_of_row w2 g 1 _ _ _ hg2]; rfl
  · rw [cell_of_row w2 g 2 _ _ _ hg2]; rfl
theorem Box3.lt_size {W : World} {g : Nat} {a b c : Value} (h : Box3 W g a b c) : g < W.heap.size := (Array.getElem?_eq_some_iff.1 h).1
theorem Box3.at0 {W : World} {g B : Nat} {a b c : Value} (h : Box3 W g a b c) (hB : g < B) (hB' : B ≤ W.heap.size) : ∀ w', Below B W w' → w'.cell? ⟨g, 0, none⟩ = some a := fun _ hb => (box3_kept_at h hB hB' hb).1
theorem Box3.at1 {W : World} {g B : Nat} {a b c : Value} (h : Box3 W g a b c) (hB : g < B) (hB' : B ≤ W.heap.size) : ∀ w', Below B W w' → w'.cell? ⟨g, 1, none⟩ = some b := fun _ hb => (box3_kept_at h hB hB' hb).2.1
theorem Box3.at2 {W : World} {g B : Nat} {a b c : Value} (h : Box3 W g a b c) (hB : g < B) (hB' : B ≤ W.heap.size) : ∀ w', Below B W w' → w'.cell? ⟨g, 2, none⟩ = some c := fun _ hb => (box3_kept_at h hB hB' hb).2.2.1
theorem Box3.free0 {W : World} {g B : Nat} {a b c : Value} (h : Box3 W g a b c) (hB : g < B) (hB' : B ≤ W.heap.size) : ∀ w', Below B W w' → w'.frozen? ⟨g, 0, none⟩ = false := fun _ hb => (box3_kept_at h hB hB' hb).2.2.2.1
theorem Box3.free1 {W : World} {g B : Nat} {a b c : Value} (h : Box3 W g a b c) (hB : g < B) (hB' : B ≤ W.heap.size) : ∀ w', Below B W w' → w'.frozen? ⟨g, 1, none⟩ = false := fun _ hb => (box3_kept_at h hB hB' hb).2.2.2.2.1
theorem Box3.free2 {W : World} {g B : Nat} {a b c : Value} (h : Box3 W g a b c) (hB : g < B) (hB' : B ≤ W.heap.size) : ∀ w', Below B W w' → w'.frozen? ⟨g, 2, none⟩ = false := fun _ hb => (box3_kept_at h hB hB' hb).2.2.2.2.2.1
theorem Box3.lt {W : World} {g B : Nat} {a b c : Value} (h : Box3 W g a b c) (hB : g < B) (hB' : B ≤ W.heap.size) : ∀ w', Below B W w' → g < w'.heap.size := fun _ hb => (box3_kept_at h hB hB' hb).2.2.2.2.2.2
theorem Box3.new (w : World) (a b c : Value) {g : Nat} (hg : g = w.heap.size) : Box3 (w.alloc (.cells #[a, b, c] 27)) g a b c := heap_alloc_at _ _ hg
theorem Box3.keep {W W' : World} {g : Nat} {a b c : Value} (h : Box3 W g a b c) (hb : Below W.heap.size W W') : Box3 W' g a b c := (hb.block g h.lt_size).trans h
theorem Box3.al {W : World} {g : Nat} {a b c : Value} (h : Box3 W g a b c) (o : Obj) : Box3 (W.alloc o) g a b c := h.keep ((Below.refl _ _).alloc (Nat.le_refl _) o)
theorem Box3.set {W : World} {g : Nat} {a b c : Value} (h : Box3 W g a b c) (a' b' c' : Value) : Box3 (((W.setCell ⟨g, 0, none⟩ a').setCell ⟨g, 1, none⟩ b').setCell ⟨g, 2, none⟩ c') g a' b' c' :=
  heap_setCell_same _ g 2 _ _ c' (heap_setCell_same _ g 1 _ _ b' (heap_setCell_same W g 0 _ _ a' h))
theorem Box3.other {W : World} {g g' o : Nat} {a b c : Value} (h : Box3 W g a b c) (hne : g ≠ g') (v : Value) : Box3 (W.setCell ⟨g', o, none⟩ v) g a b c := (Below.heap_setCell _ _ _ _ hne).trans h
theorem Box3.but0 {W : World} {g g1 g2 : Nat} {a b c : Value} (h : Box3 W g a b c) (h1 : g ≠ g1) (h2 : g ≠ g2) : ∀ w', KeptBut g1 g2 W.heap.size W w' → w'.cell? ⟨g, 0, none⟩ = some a := fun w' hk => by
  rw [cell_of_row w' g 0 _ _ _ ((hk g h.lt_size h1 h2).trans h)]; rfl
theorem Box3.but1 {W : World} {g g1 g2 : Nat} {a b c : Value} (h : Box3 W g a b c) (h1 : g ≠ g1) (h2 : g ≠ g2) : ∀ w', KeptBut g1 g2 W.heap.size W w' → w'.cell? ⟨g, 1, none⟩ = some b := fun w' hk => by
  rw [cell_of_row w' g 1 _ _ _ ((hk g h.lt_size h1 h2).trans h)]; rfl
theorem Box3.but2 {W : World} {g g1 g2 : Nat} {a b c : Value} (h : Box3 W g a b c) (h1 : g ≠ g1) (h2 : g ≠ g2) : ∀ w', KeptBut g1 g2 W.heap.size W w' → w'.cell? ⟨g, 2, none⟩ = some c := fun w' hk => by
  rw [cell_of_row w' g 2 _ _ _ ((hk g h.lt_size h1 h2).trans h)]; rfl

/-- what a ratio in normal form is by value -/
def rv (q : Rat) (A : Option Addr) (c : Nat) (B : Option Addr) (d : Nat) : Value := .agg #[.bool (zneg q.num), .slice A (dig (zmag q.num)).length c, .slice B (dig q.den).length d]
/-- A ratio was handed back, in normal form. -/
def RetRat (w : World) (q : Rat) (e : Ending) (w' : World) : Prop :=
  ∃ A c B d, e = .returned (.agg #[.bool (zneg q.num), .slice A (dig (zmag q.num)).length c, .slice B (dig q.den).length d]) ∧
    Rd w' w'.heap.size A (dig (zmag q.num)).length c (dig (zmag q.num)) ∧ Rd w' w'.heap.size B (dig q.den).length d (dig q.den) ∧ Below w.heap.size w w'
/-- .. and a bool beside it -/
def RetRatB (w : World) (q : Rat) (ok : Bool) (e : Ending) (w' : World) : Prop :=
  ∃ A c B d, e = .returned (.tuple #[.agg #[.bool (zneg q.num), .slice A (dig (zmag q.num)).length c, .slice B (dig q.den).length d], .bool ok]) ∧
    Rd w' w'.heap.size A (dig (zmag q.num)).length c (dig (zmag q.num)) ∧ Rd w' w'.heap.size B (dig q.den).length d (dig q.den) ∧ Below w.heap.size w w'

theorem far3 {w2 : World} {g n1 d1 n2 d2 : Nat} {B1 B2 : Option Addr} {b1 : Bool} (hc0 : w2.cell? ⟨g, 0, none⟩ = some (.bool b1)) (hc1 : w2.cell? ⟨g, 1, none⟩ = some (.slice B1 n1 d1)) (hc2 : w2.cell? ⟨g, 2, none⟩ = some (.slice B2 n2 d2)) (a b c : Value) {A : Option Addr} {n k : Nat} {xs : List Nat} {Bd : Nat}
    (R : Rd w2 Bd A n k xs) : Rd (((w2.setCell ⟨g, 0, none⟩ a).setCell ⟨g, 1, none⟩ b).setCell ⟨g, 2, none⟩ c) Bd A n k xs := by
  have h1 : (w2.setCell ⟨g, 0, none⟩ a).cell? ⟨g, 1, none⟩ = some (.slice B1 n1 d1) := (World.cell?_setCell_other _ _ _ _ (by simp)).trans hc1
  have h2 : ((w2.setCell ⟨g, 0, none⟩ a).setCell ⟨g, 1, none⟩ b).cell? ⟨g, 2, none⟩ = some (.slice B2 n2 d2) := ((World.cell?_setCell_other _ _ _ _ (by simp)).trans (World.cell?_setCell_other _ _ _ _ (by simp))).trans hc2
  exact ((R.far hc0 (fun x h => by cases h)).far h1 (fun x h => by cases h)).far h2 (fun x h => by cases h)
theorem far2 {w2 : World} {g n1 d1 : Nat} {B1 : Option Addr} {b1 : Bool} (hc0 : w2.cell? ⟨g, 0, none⟩ = some (.bool b1)) (hc1 : w2.cell? ⟨g, 1, none⟩ = some (.slice B1 n1 d1)) (a b : Value) {A : Option Addr} {n k : Nat} {xs : List Nat} {Bd : Nat}
    (R : Rd w2 Bd A n k xs) : Rd ((w2.setCell ⟨g, 0, none⟩ a).setCell ⟨g, 1, none⟩ b) Bd A n k xs := by
  have h1 : (w2.setCell ⟨g, 0, none⟩ a).cell? ⟨g, 1, none⟩ = some (.slice B1 n1 d1) := (World.cell?_setCell_other _ _ _ _ (by simp)).trans hc1
  exact (R.far hc0 (fun x h => by cases h)).far h1 (fun x h => by cases h)
theorem RetRat.box {w w2 : World} {q : Rat} {A B B1 B2 : Option Addr} {c d n1 d1 n2 d2 g : Nat} {b : Bool} (hb : Below w.heap.size w w2) (hg : w.heap.size ≤ g)
    (hc0 : w2.cell? ⟨g, 0, none⟩ = some (.bool b)) (hc1 : w2.cell? ⟨g, 1, none⟩ = some (.slice B1 n1 d1)) (hc2 : w2.cell? ⟨g, 2, none⟩ = some (.slice B2 n2 d2))
    (R : Rd w2 w2.heap.size A (dig (zmag q.num)).length c (dig (zmag q.num))) (R' : Rd w2 w2.heap.size B (dig q.den).length d (dig q.den)) :
    RetRat w q (.returned (.agg #[.bool (zneg q.num), .slice A (dig (zmag q.num)).length c, .slice B (dig q.den).length d])) (((w2.setCell ⟨g, 0, none⟩ (.bool (zneg q.num))).setCell ⟨g, 1, none⟩ (.slice A (dig (zmag q.num)).length c)).setCell ⟨g, 2, none⟩ (.slice B (dig q.den).length d)) :=
  ⟨A, c, B, d, rfl, by simpa using far3 hc0 hc1 hc2 _ _ _ R, by simpa using far3 hc0 hc1 hc2 _ _ _ R', ((hb.setCell hg _).setCell hg _).setCell hg _⟩
theorem RetRatB.box {w w2 : World} {q : Rat} {ok : Bool} {A B B1 B2 : Option Addr} {c d n1 d1 n2 d2 g : Nat} {b : Bool} (hb : Below w.heap.size w w2) (hg : w.heap.size ≤ g)
    (hc0 : w2.cell? ⟨g, 0, none⟩ = some (.bool b)) (hc1 : w2.cell? ⟨g, 1, none⟩ = some (.slice B1 n1 d1)) (hc2 : w2.cell? ⟨g, 2, none⟩ = some (.slice B2 n2 d2))
    (R : Rd w2 w2.heap.size A (dig (zmag q.num)).length c (dig (zmag q.num))) (R' : Rd w2 w2.heap.size B (dig q.den).length d (dig q.den)) :
    RetRatB w q ok (.returned (.tuple #[.agg #[.bool (zneg q.num), .slice A (dig (zmag q.num)).length c, .slice B (dig q.den).length d], .bool ok])) (((w2.setCell ⟨g, 0, none⟩ (.bool (zneg q.num))).setCell ⟨g, 1, none⟩ (.slice A (dig (zmag q.num)).length c)).setCell ⟨g, 2, none⟩ (.slice B (dig q.den).length d)) :=
  ⟨A, c, B, d, rfl, by simpa using far3 hc0 hc1 hc2 _ _ _ R, by simpa using far3 hc0 hc1 hc2 _ _ _ R', ((hb.setCell hg _).setCell hg _).setCell hg _⟩

theorem q0num : (0 : Rat).num = 0 := rfl
theorem q0den : (0 : Rat).den = 1 := rfl
theorem ivz (z : Int) : iv (zneg z) (val (dig (zmag z))) = z := by rw [val_dig, iv_eta]
theorem qvz (z : Int) (d : Nat) : qv (zneg z) (val (dig (zmag z))) (val (dig d)) = mkRat z d := by unfold qv; rw [ivz, val_dig]
theorem qvz' (z : Int) (d : Nat) : qv (zneg z) (val (dig (zmag z))) d = mkRat z d := by unfold qv; rw [ivz]

/-- lengths -/
theorem Rd.dl {w : World} {Bd n c : Nat} {A : Option Addr} {xs : List Nat} (h : Rd w Bd A n c xs) : (dig (val xs)).length ≤ n := by rw [← h.len]; exact dig_len_val h.limbs
theorem Rd.lt {w : World} {Bd n c : Nat} {A : Option Addr} {xs : List Nat} (h : Rd w Bd A n c xs) : val xs < pw n := (dig_len_le _ _).1 h.dl
theorem pw_le {i j : Nat} (h : i ≤ j) {x : Nat} (hx : x < pw i) : x < pw j := (dig_len_le _ _).1 (Nat.le_trans ((dig_len_le _ _).2 hx) h)
theorem zl {z : Int} {i : Nat} (h : zmag z < pw i) : (dig (zmag z)).length ≤ i := (dig_len_le _ _).2 h
theorem dl {x i : Nat} (h : x < pw i) : (dig x).length ≤ i := (dig_len_le _ _).2 h
theorem lz (z : Int) : zmag z < pw (dig (zmag z)).length := (dig_len_le _ _).1 (Nat.le_refl _)
theorem zl_iv {s : Bool} {m i : Nat} (h : m < pw i) : zmag (iv s m) < pw i := by rw [zmag_iv]; exact h
theorem zl_add {x y : Int} {i j : Nat} (hx : zmag x < pw i) (hy : zmag y < pw j) : zmag (x + y) < pw (max i j + 1) := by
  have h1 := lt_add hx hy
  have h2 : zmag (x + y) ≤ zmag x + zmag y := Int.natAbs_add_le _ _
  omega
theorem zl_mul {x y : Int} {i j : Nat} (hx : zmag x < pw i) (hy : zmag y < pw j) : zmag (x * y) < pw (i + j) := by
  have h1 := lt_mul hx hy
  have h2 : zmag (x * y) = zmag x * zmag y := Int.natAbs_mul _ _
  rw [h2]; exact h1
theorem zl_neg {x : Int} {i : Nat} (hx : zmag x < pw i) : zmag (-x) < pw i := by unfold zmag at *; rw [Int.natAbs_neg]; exact hx
theorem zl_nat {m i : Nat} (h : m < pw i) : zmag (m : Int) < pw i := h

/-- arithmetic of quotients -/
theorem qv_ne {s : Bool} {m d : Nat} (_h : d ≠ 0) : qv s m d = Rat.divInt (iv s m) d := (Rat.divInt_ofNat _ _).symm
theorem mk_add {a b : Int} {c d : Nat} (hc : c ≠ 0) (hd : d ≠ 0) : mkRat a c + mkRat b d = mkRat (a * d + b * c) (c * d) := Rat.mkRat_add_mkRat a b hc hd
theorem mk_mul (a b : Int) (c d : Nat) : mkRat a c * mkRat b d = mkRat (a * b) (c * d) := Rat.mkRat_mul_mkRat a b c d
theorem mk_neg (a : Int) (c : Nat) : -mkRat a c = mkRat (-a) c := Rat.neg_mkRat a c
theorem sgn_mk {a : Int} {c : Nat} (hc : c ≠ 0) : sgn (mkRat a c).num = sgn a := by
  rw [Rat.num_mkRat, if_neg hc]
  obtain ⟨k, hk⟩ : ((c.gcd a.natAbs : Nat) : Int) ∣ a := Int.ofNat_dvd_left.2 (Nat.gcd_dvd_right _ _)
  have hg : 0 < c.gcd a.natAbs := Nat.gcd_pos_of_pos_left _ (by omega)
  generalize c.gcd a.natAbs = g at *
  subst hk
  rw [Int.mul_ediv_cancel_left _ (by omega)]
  unfold sgn
  rw [Int.sign_mul, Int.sign_eq_one_of_pos (show (0 : Int) < (g : Int) by omega), Int.one_mul]
theorem mk_sub {a b : Int} {c d : Nat} (hc : c ≠ 0) (hd : d ≠ 0) : mkRat a c - mkRat b d = mkRat (a * d - b * c) (c * d) := by
  rw [Rat.sub_eq_add_neg, mk_neg, mk_add hc hd, Int.neg_mul, ← Int.sub_eq_add_neg]
theorem mk_cmp {a b : Int} {c d : Nat} (hc : c ≠ 0) (hd : d ≠ 0) : sgn (mkRat a c - mkRat b d).num = sgn (a * d - b * c) := by
  rw [mk_sub hc hd, sgn_mk (Nat.mul_ne_zero hc hd)]
theorem mk_div {a b : Int} {c d : Nat} (_hc : c ≠ 0) (_hd : d ≠ 0) : mkRat a c / mkRat b d = Rat.divInt (a * d) (b * c) := by
  rw [Rat.div_def, ← Rat.divInt_ofNat, ← Rat.divInt_ofNat, Rat.inv_divInt, Rat.divInt_mul_divInt, Int.mul_comm (c : Int) b]
theorem mk_eq_zero {a : Int} {c : Nat} (hc : c ≠ 0) : mkRat a c = 0 ↔ a = 0 := Rat.mkRat_eq_zero hc
theorem mk_floor (a : Int) {c : Nat} (hc : c ≠ 0) : (mkRat a c).floor = a / c := by
  have h : mkRat a c = Rat.divInt a c := (Rat.divInt_ofNat _ _).symm
  obtain ⟨g, hg, h1, h2⟩ : ∃ g : Nat, g ≠ 0 ∧ a = (mkRat a c).num * g ∧ c = (mkRat a c).den * g := by
    refine ⟨c.gcd a.natAbs, Nat.pos_iff_ne_zero.1 (Nat.gcd_pos_of_pos_left _ (by omega)), ?_, ?_⟩
    · rw [Rat.num_mkRat, if_neg hc, Int.ediv_mul_cancel (Int.ofNat_dvd_left.2 (Nat.gcd_dvd_right _ _))]
    · rw [Rat.den_mkRat, if_neg hc, Nat.div_mul_cancel (Nat.gcd_dvd_left _ _)]
  rw [Rat.floor_def]
  generalize (mkRat a c).num = x at *
  generalize (mkRat a c).den = y at *
  subst h1 h2
  rw [Int.natCast_mul, Int.mul_ediv_mul_of_pos_left _ _ (by omega)]
/-- what Floor computes -/
theorem fq_floor (s : Bool) (x : Nat) {y : Nat} (h : y ≠ 0) : fq s false x y = iv s x / (y : Int) := by
  have hy : 0 < y := Nat.pos_of_ne_zero h
  have hm := Nat.mod_lt x hy
  have e := dm_int x y
  symm
  cases s
  · rw [fq_same, iv_false, iv_false, Int.natCast_ediv]
  · by_cases h0 : x % y = 0
    · rw [fq_whole (by simp) h0, iv_true, iv_true]
      rw [h0] at e
      generalize x / y = k at *
      rw [e, Int.natCast_zero, Int.add_zero, ← Int.mul_neg, Int.mul_ediv_cancel_left _ (by omega)]
    · rw [fq_below (by simp) h0, iv_true, iv_true]
      generalize x / y = k at *
      refine (Int.ediv_eq_iff_of_pos (by omega)).2 ?_
      have e2 : (y : Int) * ((k + 1 : Nat) : Int) = y * k + y := by rw [Int.natCast_add, Int.mul_add]; simp
      generalize hp : (y : Int) * (k : Int) = p at *
      constructor
      · rw [Int.neg_mul, Int.mul_comm, e2]; omega
      · rw [Int.neg_mul, Int.mul_comm, e2]; omega
theorem mk_neg_floor_zero : (mkRat 0 1).floor = 0 := rfl

end Go.Proofs.Ytieopcchchebgaa
