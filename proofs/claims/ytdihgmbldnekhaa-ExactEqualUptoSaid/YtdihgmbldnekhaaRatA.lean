/-
  Rat, Rat2.
-/
import Derived.Test.YtdihgmbldnekhaaIntC
import Derived.Test.YtdihgmbldnekhaaRInt3
import Derived.Test.YtdihgmbldnekhaaNatGcd
namespace Go.Proofs.Ytdihgmbldnekhaa
section
open Go.RowKit

/-- the number with that numerator (sign, magnitude) and that denominator; 0 where that is 0 -/
def qv (s : Bool) (m d : Nat) : Rat := mkRat (iv s m) d
theorem qv_eta (q : Rat) : qv (zneg q.num) (val (dig (zmag q.num))) (val (dig q.den)) = q := by
  unfold qv; rw [val_dig, val_dig, iv_eta, Rat.mkRat_self]
theorem qv_zero (s : Bool) (m : Nat) : qv s m 0 = 0 := Rat.mkRat_zero _
theorem iv_natAbs (s : Bool) (m : Nat) : (iv s m).natAbs = m := zmag_iv s m
theorem iv_div (s : Bool) {m g : Nat} (h : g ∣ m) : iv s m / (g : Int) = iv s (m / g) := by
  obtain ⟨k, rfl⟩ := h
  rcases Nat.eq_zero_or_pos g with rfl | hg
  · simp [iv_zero]
  · rw [Nat.mul_div_cancel_left _ hg]
    cases s
    · rw [iv_false, iv_false, Int.natCast_mul, Int.mul_ediv_cancel_left _ (by omega)]
    · rw [iv_true, iv_true, Int.natCast_mul, ← Int.mul_neg, Int.mul_ediv_cancel_left _ (by omega)]
theorem qv_num (s : Bool) (m : Nat) {d : Nat} (h : d ≠ 0) : (qv s m d).num = iv s (m / Nat.gcd m d) := by
  unfold qv
  rw [Rat.num_mkRat, if_neg h, iv_natAbs, Nat.gcd_comm, iv_div s (Nat.gcd_dvd_left m d)]
theorem qv_den (s : Bool) (m : Nat) {d : Nat} (h : d ≠ 0) : (qv s m d).den = d / Nat.gcd m d := by
  unfold qv
  rw [Rat.den_mkRat, if_neg h, iv_natAbs, Nat.gcd_comm]

/-- what a block of three cells reads as -/
def Box3 (W : World) (g : Nat) (a b c : Value) : Prop := W.heap[g]? = some (.cells #[a, b, c] 27 (0, 0))
theorem box3_kept_at {w w2 : World} {a b c : Value} {g B : Nat} (hg : Box3 w g a b c) (hB : g < B) (hB' : B ≤ w.heap.size) (hb : Below B w w2) :
    w2.cell? ⟨g, 0, none⟩ = some a ∧ w2.cell? ⟨g, 1, none⟩ = some b ∧ w2.cell? ⟨g, 2, none⟩ = some c ∧ w2.frozen? ⟨g, 0, none⟩ = false ∧ w2.frozen? ⟨g, 1, none⟩ = false ∧ w2.frozen? ⟨g, 2, none⟩ = false ∧ g < w2.heap.size := by
  have hg2 : w2.heap[g]? = some (.cells #[a, b, c] 27 (0, 0)) := (hb.block g hB).trans hg
  refine ⟨?_, ?_, ?_, frozen_of_row w2 g 0 _ _ hg2, frozen_of_row w2 g 1 _ _ hg2, frozen_of_row w2 g 2 _ _ hg2, Nat.lt_of_lt_of_le hB (Nat.le_trans hB' hb.size)⟩
  · rw [cell_of_row w2 g 0 _ _ _ hg2]; rfl
  · rw [cell_of_row w2 g 1 _ _ _ hg2]; rfl
  · rw [cell_of_row w2 g 2 _ _ _ hg2]; rfl
theorem Box3.lt_size {W : World} {g : Nat} {a b c : Value} (h : Box3 W g a b c) : g < W.heap.size := (Array.getElem?_eq_some_iff.1 h).1
theorem Box3.at0 {W : World} {g B : Nat} {a b c : Value} (h : Box3 W g a b c) (hB : g < B) (hB' : B ≤ W.heap.size) : ∀ w', Below B W w' → w'.cell? ⟨g, 0, none⟩ = some a := fun _ hb => (box3_kept_at h hB hB' hb).1
theorem Box3.at1 {W : World} {g B : Nat} {a b c : Value} (h : Box3 W g a b c) (hB : g < B) (hB' : B ≤ W.heap.size) : ∀ w', Below B W w' → w'.cell? ⟨g, 1, none⟩ = some b := fun _ hb => (box3_kept_at h hB hB' hb).2.1
theorem Box3.at2 {W : World} {g B : Nat} {a b c : Value} (h : Box3 W g a b c) (hB : g < B) (hB' : B ≤ W.heap.size) : ∀ w', Below B W w' → w'.cell? ⟨g, 2, none⟩ = some c := fun _ hb => (box3_kept_at h hB hB' hb).2.2.1
theorem Box3.free0 {W : World} {g B : Nat} {a b c : Value} (h : Box3 W g a b c) (hB : g < B) (hB' : B ≤ W.heap.size) : ∀ w', Below B W w' → w'.frozen? ⟨g, 0, none⟩ = false := fun _ hb => (box3_kept_at h hB hB' hb).2.2.2.1
theorem Box3.free1 {W : World} {g B : Nat} {a b c : Value} (h : Box3 W g a b c) (hB : g < B) (hB' : B ≤ W.heap.size) : ∀ w', Below B W w' → w'.frozen? ⟨g, 1, none⟩ = false := fun _ hb => (box3_kept_at h hB hB' hb).2.2.2.2.1
theorem Box3.free2 {W : World} {g B : Nat} {a b c : Value} (h : Box3 W g a b c) (hB : g < B) (hB' : B ≤ W.heap.size) : ∀ w', Below B W w' → w'.frozen? ⟨g, 2, none⟩ = false := fun _ hb => (box3_kept_at h hB hB' hb).2.2.2.2.2.1
theorem Box3.lt {W : World} {g B : Nat} {a b c : Value} (h : Box3 W g a b c) (hB : g < B) (hB' : B ≤ W.heap.size) : ∀ w', Below B W w' → g < w'.heap.size := fun _ hb => (box3_kept_at h hB hB' hb).2.2.2.2.2.2
theorem Box3.new (w : World) (a b c : Value) {g : Nat} (hg : g = w.heap.size) : Box3 (w.alloc (.cells #[a, b, c] 27)) g a b c := heap_alloc_at _ _ hg
theorem Box3.keep {W W' : World} {g : Nat} {a b c : Value} (h : Box3 W g a b c) (hb : Below W.heap.size W W') : Box3 W' g a b c := (hb.block g h.lt_size).trans h
theorem Box3.al {W : World} {g : Nat} {a b c : Value} (h : Box3 W g a b c) (o : Obj) : Box3 (W.alloc o) g a b c := h.keep ((Below.refl _ _).alloc (Nat.le_refl _) o)
theorem Box3.set {W : World} {g : Nat} {a b c : Value} (h : Box3 W g a b c) (a' b' c' : Value) : Box3 (((W.setCell ⟨g, 0, none⟩ a').setCell ⟨g, 1, none⟩ b').setCell ⟨g, 2, none⟩ c') g a' b' c' :=
  heap_setCell_same _ g 2 _ _ c' (heap_setCell_same _ g 1 _ _ b' (heap_setCell_same W g 0 _ _ a' h))
theorem Box3.other {W : World} {g g' o : Nat} {a b c : Value} (h : Box3 W g a b c) (hne : g ≠ g') (v : Value) : Box3 (W.setCell ⟨g', o, none⟩ v) g a b c := (Below.heap_setCell _ _ _ _ hne).trans h
theorem Box3.but0 {W : World} {g g1 g2 : Nat} {a b c : Value} (h : Box3 W g a b c) (h1 : g ≠ g1) (h2 : g ≠ g2) : ∀ w', KeptBut g1 g2 W.heap.size W w' → w'.cell? ⟨g, 0, none⟩ = some a := fun w' hk => by
  rw [cell_of_row w' g 0 _ _ _ ((hk g h.lt_size h1 h2).trans h)]; rfl
theorem Box3.but1 {W : World} {g g1 g2 : Nat} {a b c : Value} (h : Box3 W g a b c) (h1 : g ≠ g1) (h2 : g ≠ g2) : ∀ w', KeptBut g1 g2 W.heap.size W w' → w'.cell? ⟨g, 1, none⟩ = some b := fun w' hk => by
  rw [cell_of_row w' g 1 _ _ _ ((hk g h.lt_size h1 h2).trans h)]; rfl
theorem Box3.but2 {W : World} {g g1 g2 : Nat} {a b c : Value} (h : Box3 W g a b c) (h1 : g ≠ g1) (h2 : g ≠ g2) : ∀ w', KeptBut g1 g2 W.heap.size W w' → w'.cell? ⟨g, 2, none⟩ = some c := fun w' hk => by
  rw [cell_of_row w' g 2 _ _ _ ((hk g h.lt_size h1 h2).trans h)]; rfl

/-- what a ratio in normal form is by value -/
def rv (q : Rat) (A : Option Addr) (c : Nat) (B : Option Addr) (d : Nat) : Value := .agg #[.bool (zneg q.num), .slice A (dig (zmag q.num)).length c, .slice B (dig q.den).length d]
/-- A ratio was handed back, in normal form. -/
def RetRat (w : World) (q : Rat) (e : Ending) (w' : World) : Prop :=
  ∃ A c B d, e = .returned (.agg #[.bool (zneg q.num), .slice A (dig (zmag q.num)).length c, .slice B (dig q.den).length d]) ∧
    Rd w' w'.heap.size A (dig (zmag q.num)).length c (dig (zmag q.num)) ∧ Rd w' w'.heap.size B (dig q.den).length d (dig q.den) ∧ Below w.heap.size w w'
/-- .. and a bool beside it -/
def RetRatB (w : World) (q : Rat) (ok : Bool) (e : Ending) (w' : World) : Prop :=
  ∃ A c B d, e = .returned (.tuple #[.agg #[.bool (zneg q.num), .slice A (dig (zmag q.num)).length c, .slice B (dig q.den).length d], .bool ok]) ∧
    Rd w' w'.heap.size A (dig (zmag q.num)).length c (dig (zmag q.num)) ∧ Rd w' w'.heap.size B (dig q.den).length d (dig q.den) ∧ Below w.heap.size w w'

theorem far3 {w2 : World} {g n1 d1 n2 d2 : Nat} {B1 B2 : Option Addr} {b1 : Bool} (hc0 : w2.cell? ⟨g, 0, none⟩ = some (.bool b1)) (hc1 : w2.cell? ⟨g, 1, none⟩ = some (.slice B1 n1 d1)) (hc2 : w2.cell? ⟨g, 2, none⟩ = some (.slice B2 n2 d2)) (a b c : Value) {A : Option Addr} {n k : Nat} {xs : List Nat} {Bd : Nat}
    (R : Rd w2 Bd A n k xs) : Rd (((w2.setCell ⟨g, 0, none⟩ a).setCell ⟨g, 1, none⟩ b).setCell ⟨g, 2, none⟩ c) Bd A n k xs := by
  have h1 : (w2.setCell ⟨g, 0, none⟩ a).cell? ⟨g, 1, none⟩ = some (.slice B1 n1 d1) := (World.cell?_setCell_other _ _ _ _ (by simp)).trans hc1
  have h2 : ((w2.setCell ⟨g, 0, none⟩ a).setCell ⟨g, 1, none⟩ b).cell? ⟨g, 2, none⟩ = some (.slice B2 n2 d2) := ((World.cell?_setCell_other _ _ _ _ (by simp)).trans (World.cell?_setCell_other _ _ _ _ (by simp))).trans hc2
  exact ((R.far hc0 (fun x h => by cases h)).far h1 (fun x h => by cases h)).far h2 (fun x h => by cases h)
theorem far2 {w2 : World} {g n1 d1 : Nat} {B1 : Option Addr} {b1 : Bool} (hc0 : w2.cell? ⟨g, 0, none⟩ = some (.bool b1)) (hc1 : w2.cell? ⟨g, 1, none⟩ = some (.slice B1 n1 d1)) (a b : Value) {A : Option Addr} {n k : Nat} {xs : List Nat} {Bd : Nat}
    (R : Rd w2 Bd A n k xs) : Rd ((w2.setCell ⟨g, 0, none⟩ a).setCell ⟨g, 1, none⟩ b) Bd A n k xs := by
  have h1 : (w2.setCell ⟨g, 0, none⟩ a).cell? ⟨g, 1, none⟩ = some (.slice B1 n1 d1) := (World.cell?_setCell_other _ _ _ _ (by simp)).trans hc1
  exact (R.far hc0 (fun x h => by cases h)).far h1 (fun x h => by cases h)
theorem RetRat.box {w w2 : World} {q : Rat} {A B B1 B2 : Option Addr} {c d n1 d1 n2 d2 g : Nat} {b : Bool} (hb : Below w.heap.size w w2) (hg : w.heap.size ≤ g)
    (hc0 : w2.cell? ⟨g, 0, none⟩ = some (.bool b)) (hc1 : w2.cell? ⟨g, 1, none⟩ = some (.slice B1 n1 d1)) (hc2 : w2.cell? ⟨g, 2, none⟩ = some (.slice B2 n2 d2))
    (R : Rd w2 w2.heap.size A (dig (zmag q.num)).length c (dig (zmag q.num))) (R' : Rd w2 w2.heap.size B (dig q.den).length d (dig q.den)) :
    RetRat w q (.returned (.agg #[.bool (zneg q.num), .slice A (dig (zmag q.num)).length c, .slice B (dig q.den).length d])) (((w2.setCell ⟨g, 0, none⟩ (.bool (zneg q.num))).setCell ⟨g, 1, none⟩ (.slice A (dig (zmag q.num)).length c)).setCell ⟨g, 2, none⟩ (.slice B (dig q.den).length d)) :=
  ⟨A, c, B, d, rfl, by simpa using far3 hc0 hc1 hc2 _ _ _ R, by simpa using far3 hc0 hc1 hc2 _ _ _ R', ((hb.setCell hg _).setCell hg _).setCell hg _⟩
theorem RetRatB.box {w w2 : World} {q : Rat} {ok : Bool} {A B B1 B2 : Option Addr} {c d n1 d1 n2 d2 g : Nat} {b : Bool} (hb : Below w.heap.size w w2) (hg : w.heap.size ≤ g)
    (hc0 : w2.cell? ⟨g, 0, none⟩ = some (.bool b)) (hc1 : w2.cell? ⟨g, 1, none⟩ = some (.slice B1 n1 d1)) (hc2 : w2.cell? ⟨g, 2, none⟩ = some (.slice B2 n2 d2))
    (R : Rd w2 w2.heap.size A (dig (zmag q.num)).length c (dig (zmag q.num))) (R' : Rd w2 w2.heap.size B (dig q.den).length d (dig q.den)) :
    RetRatB w q ok (.returned (.tuple #[.agg #[.bool (zneg q.num), .slice A (dig (zmag q.num)).length c, .slice B (dig q.den).length d], .bool ok])) (((w2.setCell ⟨g, 0, none⟩ (.bool (zneg q.num))).setCell ⟨g, 1, none⟩ (.slice A (dig (zmag q.num)).length c)).setCell ⟨g, 2, none⟩ (.slice B (dig q.den).length d)) :=
  ⟨A, c, B, d, rfl, by simpa using far3 hc0 hc1 hc2 _ _ _ R, by simpa using far3 hc0 hc1 hc2 _ _ _ R', ((hb.setCell hg _).setCell hg _).setCell hg _⟩

theorem q0num : (0 : Rat).num = 0 := rfl
theorem q0den : (0 : Rat).den = 1 := rfl
theorem ivz (z : Int) : iv (zneg z) (val (dig (zmag z))) = z := by rw [val_dig, iv_eta]
theorem qvz (z : Int) (d : Nat) : qv (zneg z) (val (dig (zmag z))) (val (dig d)) = mkRat z d := by unfold qv; rw [ivz, val_dig]
theorem qvz' (z : Int) (d : Nat) : qv (zneg z) (val (dig (zmag z))) d = mkRat z d := by unfold qv; rw [ivz]

/-- lengths -/
theorem Rd.dl {w : World} {Bd n c : Nat} {A : Option Addr} {xs : List Nat} (h : Rd w Bd A n c xs) : (dig (val xs)).length ≤ n := by rw [← h.len]; exact dig_len_val h.limbs
theorem Rd.lt {w : World} {Bd n c : Nat} {A : Option Addr} {xs : List Nat} (h : Rd w Bd A n c xs) : val xs < pw n := (dig_len_le _ _).1 h.dl
theorem pw_le {i j : Nat} (h : i ≤ j) {x : Nat} (hx : x < pw i) : x < pw j := (dig_len_le _ _).1 (Nat.le_trans ((dig_len_le _ _).2 hx) h)
theorem zl {z : Int} {i : Nat} (h : zmag z < pw i) : (dig (zmag z)).length ≤ i := (dig_len_le _ _).2 h
theorem dl {x i : Nat} (h : x < pw i) : (dig x).length ≤ i := (dig_len_le _ _).2 h
theorem lz (z : Int) : zmag z < pw (dig (zmag z)).length := (dig_len_le _ _).1 (Nat.le_refl _)
theorem zl_iv {s : Bool} {m i : Nat} (h : m < pw i) : zmag (iv s m) < pw i := by rw [zmag_iv]; exact h
theorem zl_add {x y : Int} {i j : Nat} (hx : zmag x < pw i) (hy : zmag y < pw j) : zmag (x + y) < pw (max i j + 1) := by
  have h1 := lt_add hx hy
  have h2 : zmag (x + y) ≤ zmag x + zmag y := Int.natAbs_add_le _ _
  omega
theorem zl_mul {x y : Int} {i j : Nat} (hx : zmag x < pw i) (hy : zmag y < pw j) : zmag (x * y) < pw (i + j) := by
  have h1 := lt_mul hx hy
  have h2 : zmag (x * y) = zmag x * zmag y := Int.natAbs_mul _ _
  rw [h2]; exact h1
theorem zl_neg {x : Int} {i : Nat} (hx : zmag x < pw i) : zmag (-x) < pw i := by unfold zmag at *; rw [Int.natAbs_neg]; exact hx
theorem zl_nat {m i : Nat} (h : m < pw i) : zmag (m : Int) < pw i := h

/-- arithmetic of quotients -/
theorem qv_ne {s : Bool} {m d : Nat} (_h : d ≠ 0) : qv s m d = Rat.divInt (iv s m) d := (Rat.divInt_ofNat _ _).symm
theorem mk_add {a b : Int} {c d : Nat} (hc : c ≠ 0) (hd : d ≠ 0) : mkRat a c + mkRat b d = mkRat (a * d + b * c) (c * d) := Rat.mkRat_add_mkRat a b hc hd
theorem mk_mul (a b : Int) (c d : Nat) : mkRat a c * mkRat b d = mkRat (a * b) (c * d) := Rat.mkRat_mul_mkRat a b c d
theorem mk_neg (a : Int) (c : Nat) : -mkRat a c = mkRat (-a) c := Rat.neg_mkRat a c
theorem sgn_mk {a : Int} {c : Nat} (hc : c ≠ 0) : sgn (mkRat a c).num = sgn a := by
  rw [Rat.num_mkRat, if_neg hc]
  obtain ⟨k, hk⟩ : ((c.gcd a.natAbs : Nat) : Int) ∣ a := Int.ofNat_dvd_left.2 (Nat.gcd_dvd_right _ _)
  have hg : 0 < c.gcd a.natAbs := Nat.gcd_pos_of_pos_left _ (by omega)
  generalize c.gcd a.natAbs = g at *
  subst hk
  rw [Int.mul_ediv_cancel_left _ (by omega)]
  unfold sgn
  rw [Int.sign_mul, Int.sign_eq_one_of_pos (show (0 : Int) < (g : Int) by omega), Int.one_mul]
theorem mk_sub {a b : Int} {c d : Nat} (hc : c ≠ 0) (hd : d ≠ 0) : mkRat a c - mkRat b d = mkRat (a * d - b * c) (c * d) := by
  rw [Rat.sub_eq_add_neg, mk_neg, mk_add hc hd, Int.neg_mul, ← Int.sub_eq_add_neg]
theorem mk_cmp {a b : Int} {c d : Nat} (hc : c ≠ 0) (hd : d ≠ 0) : sgn (mkRat a c - mkRat b d).num = sgn (a * d - b * c) := by
  rw [mk_sub hc hd, sgn_mk (Nat.mul_ne_zero hc hd)]
theorem mk_div {a b : Int} {c d : Nat} (_hc : c ≠ 0) (_hd : d ≠ 0) : mkRat a c / mkRat b d = Rat.divInt (a * d) (b * c) := by
  rw [Rat.div_def, ← Rat.divInt_ofNat, ← Rat.divInt_ofNat, Rat.inv_divInt, Rat.divInt_mul_divInt, Int.mul_comm (c : Int) b]
theorem mk_eq_zero {a : Int} {c : Nat} (hc : c ≠ 0) : mkRat a c = 0 ↔ a = 0 := Rat.mkRat_eq_zero hc
theorem mk_floor (a : Int) {c : Nat} (hc : c ≠ 0) : (mkRat a c).floor = a / c := by
  have h : mkRat a c = Rat.divInt a c := (Rat.divInt_ofNat _ _).symm
  obtain ⟨g, hg, h1, h2⟩ : ∃ g : Nat, g ≠ 0 ∧ a = (mkRat a c).num * g ∧ c = (mkRat a c).den * g := by
    refine ⟨c.gcd a.natAbs, Nat.pos_iff_ne_zero.1 (Nat.gcd_pos_of_pos_left _ (by omega)), ?_, ?_⟩
    · rw [Rat.num_mkRat, if_neg hc, Int.ediv_mul_cancel (Int.ofNat_dvd_left.2 (Nat.gcd_dvd_right _ _))]
    · rw [Rat.den_mkRat, if_neg hc, Nat.div_mul_cancel (Nat.gcd_dvd_left _ _)]
  rw [Rat.floor_def]
  generalize (mkRat a c).num = x at *
  generalize (mkRat a c).den = y at *
  subst h1 h2
  rw [Int.natCast_mul, Int.mul_ediv_mul_of_pos_left _ _ (by omega)]
/-- what Floor computes -/
theorem fq_floor (s : Bool) (x : Nat) {y : Nat} (h : y ≠ 0) : fq s false x y = iv s x / (y : Int) := by
  have hy : 0 < y := Nat.pos_of_ne_zero h
  have hm := Nat.mod_lt x hy
  have e := dm_int x y
  symm
  cases s
  · rw [fq_same, iv_false, iv_false, Int.natCast_ediv]
  · by_cases h0 : x % y = 0
    · rw [fq_whole (by simp) h0, iv_true, iv_true]
      rw [h0] at e
      generalize x / y = k at *
      rw [e, Int.natCast_zero, Int.add_zero, ← Int.mul_neg, Int.mul_ediv_cancel_left _ (by omega)]
    · rw [fq_below (by simp) h0, iv_true, iv_true]
      generalize x / y = k at *
      refine (Int.ediv_eq_iff_of_pos (by omega)).2 ?_
      have e2 : (y : Int) * ((k + 1 : Nat) : Int) = y * k + y := by rw [Int.natCast_add, Int.mul_add]; simp
      generalize hp : (y : Int) * (k : Int) = p at *
      constructor
      · rw [Int.neg_mul, Int.mul_comm, e2]; omega
      · rw [Int.neg_mul, Int.mul_comm, e2]; omega
theorem mk_neg_floor_zero : (mkRat 0 1).floor = 0 := rfl
end

section
open Go.RowKit


/-- parts: a numerator and a denominator that is not 0 -/
def RetParts (w : World) (q : Rat) (e : Ending) (w' : World) : Prop :=
  ∃ (s : Bool) (A : Option Addr) (n c : Nat) (xs : List Nat) (B : Option Addr) (m d : Nat) (ys : List Nat), e = .returned (.tuple #[.agg #[.bool s, .slice A n c], .slice B m d]) ∧ Rd w' w'.heap.size A n c xs ∧ Rd w' w'.heap.size B m d ys ∧
    n ≤ 1000000000 ∧ m ≤ 1000000000 ∧ val ys ≠ 0 ∧ qv s (val xs) (val ys) = q ∧ Below w.heap.size w w'
theorem RetRat.zero {w w2 : World} {q : Rat} (hq : (0 : Rat) = q) {B B1 B2 : Option Addr} {d n1 d1 n2 d2 g : Nat} {b : Bool} (hb : Below w.heap.size w w2) (hg : w.heap.size ≤ g)
    (hc0 : w2.cell? ⟨g, 0, none⟩ = some (.bool b)) (hc1 : w2.cell? ⟨g, 1, none⟩ = some (.slice B1 n1 d1)) (hc2 : w2.cell? ⟨g, 2, none⟩ = some (.slice B2 n2 d2)) (R' : Rd w2 w2.heap.size B (dig 1).length d (dig 1)) :
    RetRat w q (.returned (.agg #[.bool false, .slice none 0 0, .slice B (dig 1).length d])) (((w2.setCell ⟨g, 0, none⟩ (.bool false)).setCell ⟨g, 1, none⟩ (.slice none 0 0)).setCell ⟨g, 2, none⟩ (.slice B (dig 1).length d)) := by
  subst hq
  have e : dig (zmag (0 : Rat).num) = [] := by rw [q0num, show zmag 0 = 0 from rfl, dig_zero]
  have h := RetRat.box (q := 0) (A := none) (c := 0) (B := B) (d := d) hb hg hc0 hc1 hc2 (by rw [e]; exact Rd.empty _ _ _ (by omega)) R'
  rw [e] at h
  exact h
theorem below_q {w w' : World} (h : ∃ q, w' = w.drewN q) : Below w.heap.size w w' := by obtain ⟨q, rfl⟩ := h; exact below_drewN (Below.refl _ _) q
/-- DivMod, the quotient alone -/
def RetQuo (w : World) (m : Nat) (e : Ending) (w' : World) : Prop :=
  ∃ (A : Option Addr) (c : Nat) (A' : Option Addr) (c' r : Nat), e = .returned (.tuple #[.slice A (dig m).length c, .slice A' r c', .bool true]) ∧ Rd w' w'.heap.size A (dig m).length c (dig m) ∧ Below w.heap.size w w'
theorem RetDM.quo {w : World} {x y m : Nat} (h : x / y = m) {e : Ending} {w' : World} (hr : RetDM w x y e w') : RetQuo w m e w' := by
  subst h
  obtain ⟨A, c, A', c', rfl, R, _, hb⟩ := hr
  exact ⟨A, c, A', c', _, rfl, R, hb⟩
theorem quo_any {w : World} {Bd : Nat} {A A' : Option Addr} {n c n' c' : Nat} {xs ys : List Nat} {m : Nat} (hx : Rd w Bd A n c xs) (hy : Rd w Bd A' n' c' ys) (hB : Bd ≤ w.heap.size) (hn : n + 1 ≤ 70368744177664) (h0 : val ys ≠ 0) (hm : val xs / val ys = m) :
    Calls Try.prog 87 #[.slice A n c, .slice A' n' c'] w (RetQuo w m) := (divmod_any w Bd A A' n c n' c' xs ys hx hy hB hn h0).mono fun _ _ => RetDM.quo hm
theorem rquo_any {w : World} {Bd : Nat} {A A' : Option Addr} {n c n' c' : Nat} {xs ys : List Nat} {m : Nat} (hx : Rd w Bd A n c xs) (hy : Rd w Bd A' n' c' ys) (hB : Bd ≤ w.heap.size) (hn : n ≤ 35184372088000) (h0 : val ys ≠ 0) (hm : val xs / val ys = m) :
    Calls Try.prog 127 #[.slice A n c, .slice A' n' c'] w (RetQuo w m) := (rdivmod_any w Bd A A' n c n' c' xs ys hx hy hB hn h0).mono fun _ _ => RetDM.quo hm
theorem KeptBut.drew_ {g g' B : Nat} {W w' : World} (h : KeptBut g g' B W w') : KeptBut g g' B W w'.drew := h
theorem drew_set2 (w : World) (p q : Addr) (a b : Value) : ((w.setCell p a).setCell q b).drew = (w.drew.setCell p a).setCell q b := rfl
theorem ofne {y : Nat} (h : y ≠ 0) : (((bl y : Nat) : Int) == 0) = false := by
  have := mt (bl_eq_zero y).1 h
  simp; omega

set_option maxHeartbeats 4000000 in
theorem zero_any {w : World}   {q : Rat} (hq : (0 : Rat) = q) :
    Calls Try.prog 91 #[] w (RetRat w q) := by
  replace hq := hide hq
  obtain ⟨W, hW⟩ : ∃ W, W = (w.alloc (.cells #[.bool false, .slice none 0 0, .slice none 0 0] 27)) := ⟨_, rfl⟩
  have b_r0 : Box3 W (w.heap.size) (.bool false) (.slice none 0 0) (.slice none 0 0) := by rw [hW]; exact (Box3.new w _ _ _ rfl)
  have hwW : Below w.heap.size w W := by rw [hW]; exact ((Below.refl _ _).alloc (Nat.le_refl _) _)
  have B := hide hwW
  clear hwW
  have U0 : Below W.heap.size W W := Below.refl _ _
  have c_r00 := b_r0.at0 b_r0.lt_size (Nat.le_refl _)
  have c_r01 := b_r0.at1 b_r0.lt_size (Nat.le_refl _)
  have c_r02 := b_r0.at2 b_r0.lt_size (Nat.le_refl _)
  have f_r00 := b_r0.free0 b_r0.lt_size (Nat.le_refl _)
  have f_r01 := b_r0.free1 b_r0.lt_size (Nat.le_refl _)
  have f_r02 := b_r0.free2 b_r0.lt_size (Nat.le_refl _)
  have l_r0 := b_r0.lt b_r0.lt_size (Nat.le_refl _)
  replace b_r0 := hide b_r0
  go_enter Try.func91, Try.ntmps91
  go_wp2_with fail
  rw [← hW]
  clear hW
  refine (of_any _ 1 (by omega)).mono ?_
  rintro e w1 ⟨A_d, c_d, rfl, R_d, hb⟩
  have U1 : Below W.heap.size W w1 := Below.then_ U0 hb
  replace B := hide (Below.then_ B.out hb)
  replace R_d := hide R_d
  clear hb
  go_wp2
  exact bodyPost_ret (v := .agg #[.bool false, .slice none 0 0, .slice A_d (dig 1).length c_d]) (by simp [results, Try.results91, go_sem, c_r00 _ U1, c_r01 _ U1, c_r02 _ U1]) rfl (RetRat.zero hq.out B.out (by omega) (c_r00 _ U1) (c_r01 _ U1) (c_r02 _ U1) R_d.out)

set_option maxHeartbeats 4000000 in
theorem times_any {w : World} {Bd : Nat} {A_a : Option Addr} {n_a c_a : Nat} {x_a : List Nat} {s_a : Bool} {A_b : Option Addr} {n_b c_b : Nat} {x_b : List Nat} (h_a : Rd w Bd A_a n_a c_a x_a) (g_a : n_a ≤ 10000000000) (h_b : Rd w Bd A_b n_b c_b x_b) (g_b : n_b ≤ 10000000000) (hB : Bd ≤ w.heap.size) {z : Int} (hz : iv s_a (val x_a) * (val x_b : Int) = z) :
    Calls Try.prog 63 #[.agg #[.bool s_a, .slice A_a n_a c_a], .slice A_b n_b c_b] w (RetInt w z) := by
  have hz' : iv s_a (val x_a) * iv false (val x_b) = z := hz
  clear hz
  replace hz' := hide hz'
  have g1 : n_a + n_b ≤ 70368744177664 := by omega
  replace g1 := hide g1
  obtain ⟨W, hW⟩ : ∃ W, W = ((w.alloc (.cells #[.bool s_a, .slice A_a n_a c_a] 25)).alloc (.cells #[.bool false, .slice none 0 0] 25)) := ⟨_, rfl⟩
  have b_a : Box W (w.heap.size) (.bool s_a) (.slice A_a n_a c_a) := by rw [hW]; exact ((Box.new w _ _ rfl).al _)
  have b_r0 : Box W (w.heap.size + 1) (.bool false) (.slice none 0 0) := by rw [hW]; exact (Box.new _ _ _ (by simp))
  have hwW : Below w.heap.size w W := by rw [hW]; exact (((Below.refl _ _).alloc (Nat.le_refl _) _).alloc (by simp) _)
  have R_a := hide (Rd.upto h_a hwW hB)
  clear h_a
  have R_b := hide (Rd.upto h_b hwW hB)
  clear h_b
  have B := hide hwW
  clear hwW
  clear hB
  have U0 : Below W.heap.size W W := Below.refl _ _
  have c_a0 := b_a.at0 b_a.lt_size (Nat.le_refl _)
  have c_a1 := b_a.at1 b_a.lt_size (Nat.le_refl _)
  replace b_a := hide b_a
  have c_r00 := b_r0.at0 b_r0.lt_size (Nat.le_refl _)
  have c_r01 := b_r0.at1 b_r0.lt_size (Nat.le_refl _)
  have f_r00 := b_r0.free0 b_r0.lt_size (Nat.le_refl _)
  have f_r01 := b_r0.free1 b_r0.lt_size (Nat.le_refl _)
  have l_r0 := b_r0.lt b_r0.lt_size (Nat.le_refl _)
  replace b_r0 := hide b_r0
  go_enter Try.func63, Try.ntmps63
  go_wp2_with fail
  rw [← hW]
  clear hW
  refine (imul_any _ _ _ _ _ _ _ _ _ _ _ _ R_a.out R_b.out (Nat.le_refl _) g1.out).mono ?_
  rw [hz'.out]
  rintro e w1 ⟨A_z, c_z, rfl, R_z, hb⟩
  replace R_a := hide (Rd.then_ R_a.out hb)
  replace R_b := hide (Rd.then_ R_b.out hb)
  have U1 : Below W.heap.size W w1 := Below.then_ U0 hb
  replace B := hide (Below.then_ B.out hb)
  replace R_z := hide R_z
  clear hb
  go_wp2
  exact bodyPost_ret (v := .agg #[.bool (zneg z), .slice A_z (dig (zmag z)).length c_z]) (by simp [results, Try.results63, go_sem, c_r00 _ U1, c_r01 _ U1]) rfl (RetInt.box B.out (by omega) (c_r00 _ U1) (c_r01 _ U1) R_z.out)

set_option maxHeartbeats 4000000 in
theorem reduced_0 {w : World} {Bd : Nat} {A_a : Option Addr} {n_a c_a : Nat} {x_a : List Nat} {s_a : Bool} {A_b : Option Addr} {n_b c_b : Nat} {x_b : List Nat} (h_a : Rd w Bd A_a n_a c_a x_a) (_g_a : n_a ≤ 10000000000) (h_b : Rd w Bd A_b n_b c_b x_b) (_g_b : n_b ≤ 10000000000) (hB : Bd ≤ w.heap.size) {q : Rat} (h0 : val x_b = 0) (hq : (0 : Rat) = q) :
    Calls Try.prog 59 #[.agg #[.bool s_a, .slice A_a n_a c_a], .slice A_b n_b c_b] w (RetRat w q) := by
  replace h0 := hide h0
  replace hq := hide hq
  obtain ⟨W, hW⟩ : ∃ W, W = ((w.alloc (.cells #[.bool s_a, .slice A_a n_a c_a] 25)).alloc (.cells #[.bool false, .slice none 0 0, .slice none 0 0] 27)) := ⟨_, rfl⟩
  have b_a : Box W (w.heap.size) (.bool s_a) (.slice A_a n_a c_a) := by rw [hW]; exact ((Box.new w _ _ rfl).al _)
  have b_r0 : Box3 W (w.heap.size + 1) (.bool false) (.slice none 0 0) (.slice none 0 0) := by rw [hW]; exact (Box3.new _ _ _ _ (by simp))
  have hwW : Below w.heap.size w W := by rw [hW]; exact (((Below.refl _ _).alloc (Nat.le_refl _) _).alloc (by simp) _)
  have R_a := hide (Rd.upto h_a hwW hB)
  clear h_a
  have R_b := hide (Rd.upto h_b hwW hB)
  clear h_b
  have B := hide hwW
  clear hwW
  clear hB
  have U0 : Below W.heap.size W W := Below.refl _ _
  have c_a0 := b_a.at0 b_a.lt_size (Nat.le_refl _)
  have c_a1 := b_a.at1 b_a.lt_size (Nat.le_refl _)
  replace b_a := hide b_a
  have c_r00 := b_r0.at0 b_r0.lt_size (Nat.le_refl _)
  have c_r01 := b_r0.at1 b_r0.lt_size (Nat.le_refl _)
  have c_r02 := b_r0.at2 b_r0.lt_size (Nat.le_refl _)
  have f_r00 := b_r0.free0 b_r0.lt_size (Nat.le_refl _)
  have f_r01 := b_r0.free1 b_r0.lt_size (Nat.le_refl _)
  have f_r02 := b_r0.free2 b_r0.lt_size (Nat.le_refl _)
  have l_r0 := b_r0.lt b_r0.lt_size (Nat.le_refl _)
  replace b_r0 := hide b_r0
  go_enter Try.func59, Try.ntmps59
  go_wp2_with fail
  rw [← hW]
  clear hW
  have hbl : bl (val x_b) = 0 := by rw [h0.out, bl_zero]
  replace hbl := hide hbl
  refine (bits_any _ _ _ _ _ _ R_b.out).mono ?_
  rw [hbl.out]
  rintro e w' ⟨rfl, rfl⟩
  go_wp2_with fail
  refine (zero_any hq.out).mono ?_
  rintro e w1 ⟨A_q, c_q, A_qd, c_qd, rfl, R_q, R_qd, hb⟩
  replace R_a := hide (Rd.then_ R_a.out hb)
  replace R_b := hide (Rd.then_ R_b.out hb)
  have U1 : Below W.heap.size W w1 := Below.then_ U0 hb
  replace B := hide (Below.then_ B.out hb)
  replace R_q := hide R_q
  replace R_qd := hide R_qd
  clear hb
  go_wp2
  exact bodyPost_ret (v := .agg #[.bool (zneg q.num), .slice A_q (dig (zmag q.num)).length c_q, .slice A_qd (dig q.den).length c_qd]) (by simp [results, Try.results59, go_sem, c_r00 _ U1, c_r01 _ U1, c_r02 _ U1]) rfl (RetRat.box B.out (by omega) (c_r00 _ U1) (c_r01 _ U1) (c_r02 _ U1) R_q.out R_qd.out)

set_option maxHeartbeats 4000000 in
theorem reduced_1 {w : World} {Bd : Nat} {A_a : Option Addr} {n_a c_a : Nat} {x_a : List Nat} {s_a : Bool} {A_b : Option Addr} {n_b c_b : Nat} {x_b : List Nat} (h_a : Rd w Bd A_a n_a c_a x_a) (g_a : n_a ≤ 10000000000) (h_b : Rd w Bd A_b n_b c_b x_b) (g_b : n_b ≤ 10000000000) (hB : Bd ≤ w.heap.size) {q : Rat} (h0 : val x_b ≠ 0) (hq : qv s_a (val x_a) (val x_b) = q) :
    Calls Try.prog 59 #[.agg #[.bool s_a, .slice A_a n_a c_a], .slice A_b n_b c_b] w (RetRat w q) := by
  have e_num : iv s_a (val x_a / Nat.gcd (val x_a) (val x_b)) = q.num := by rw [← hq, qv_num _ _ h0]
  have e_den : val x_b / Nat.gcd (val x_a) (val x_b) = q.den := by rw [← hq, qv_den _ _ h0]
  have hg0 : Nat.gcd (val x_a) (val x_b) ≠ 0 := fun h => h0 (Nat.eq_zero_of_gcd_eq_zero_right h)
  obtain ⟨g, e_g⟩ : ∃ g, Nat.gcd (val x_a) (val x_b) = g := ⟨_, rfl⟩
  rw [e_g] at e_num e_den hg0
  obtain ⟨m, e_m⟩ : ∃ m, val x_a / val (dig g) = m := ⟨_, rfl⟩
  have e_n : iv s_a (val (dig m)) = q.num := by rw [val_dig, ← e_m, val_dig]; exact e_num
  have e_d : val x_b / val (dig g) = q.den := by rw [val_dig]; exact e_den
  have hg1 : val (dig g) ≠ 0 := by rw [val_dig]; exact hg0
  have hbl := ofne h0
  clear e_num e_den hg0 h0 hq
  replace e_g := hide e_g
  replace e_m := hide e_m
  replace e_n := hide e_n
  replace e_d := hide e_d
  replace hg1 := hide hg1
  have g1 : n_a + 1 ≤ 70368744177664 := by omega
  replace g1 := hide g1
  have g2 : n_b + 1 ≤ 70368744177664 := by omega
  replace g2 := hide g2
  obtain ⟨W, hW⟩ : ∃ W, W = ((w.alloc (.cells #[.bool s_a, .slice A_a n_a c_a] 25)).alloc (.cells #[.bool false, .slice none 0 0, .slice none 0 0] 27)) := ⟨_, rfl⟩
  have b_a : Box W (w.heap.size) (.bool s_a) (.slice A_a n_a c_a) := by rw [hW]; exact ((Box.new w _ _ rfl).al _)
  have b_r0 : Box3 W (w.heap.size + 1) (.bool false) (.slice none 0 0) (.slice none 0 0) := by rw [hW]; exact (Box3.new _ _ _ _ (by simp))
  have hwW : Below w.heap.size w W := by rw [hW]; exact (((Below.refl _ _).alloc (Nat.le_refl _) _).alloc (by simp) _)
  have R_a := hide (Rd.upto h_a hwW hB)
  clear h_a
  have R_b := hide (Rd.upto h_b hwW hB)
  clear h_b
  have B := hide hwW
  clear hwW
  clear hB
  have U0 : Below W.heap.size W W := Below.refl _ _
  have c_a0 := b_a.at0 b_a.lt_size (Nat.le_refl _)
  have c_a1 := b_a.at1 b_a.lt_size (Nat.le_refl _)
  replace b_a := hide b_a
  have c_r00 := b_r0.at0 b_r0.lt_size (Nat.le_refl _)
  have c_r01 := b_r0.at1 b_r0.lt_size (Nat.le_refl _)
  have c_r02 := b_r0.at2 b_r0.lt_size (Nat.le_refl _)
  have f_r00 := b_r0.free0 b_r0.lt_size (Nat.le_refl _)
  have f_r01 := b_r0.free1 b_r0.lt_size (Nat.le_refl _)
  have f_r02 := b_r0.free2 b_r0.lt_size (Nat.le_refl _)
  have l_r0 := b_r0.lt b_r0.lt_size (Nat.le_refl _)
  replace b_r0 := hide b_r0
  go_enter Try.func59, Try.ntmps59
  go_wp2_with fail
  rw [← hW]
  clear hW
  refine (bits_any _ _ _ _ _ _ R_b.out).mono ?_
  rintro e w' ⟨rfl, rfl⟩
  go_wp2_with fail
  refine (gcd_any _ _ _ _ _ _ _ _ _ _ R_a.out R_b.out (Nat.le_refl _) g1.out g2.out).mono ?_
  rw [e_g.out]
  rintro e w1 ⟨A_g, c_g, rfl, R_g, hb⟩
  replace R_a := hide (Rd.then_ R_a.out hb)
  replace R_b := hide (Rd.then_ R_b.out hb)
  have U1 : Below W.heap.size W w1 := Below.then_ U0 hb
  replace B := hide (Below.then_ B.out hb)
  replace R_g := hide R_g
  clear hb
  go_wp2_with fail
  refine (quo_any R_a.out R_g.out (Nat.le_refl _) g1.out hg1.out e_m.out).mono ?_
  rintro e w2 ⟨A_m, c_m, A_y, c_y, r_y, rfl, R_m, hb⟩
  replace R_a := hide (Rd.then_ R_a.out hb)
  replace R_b := hide (Rd.then_ R_b.out hb)
  replace R_g := hide (Rd.then_ R_g.out hb)
  have U2 : Below W.heap.size W w2 := Below.then_ U1 hb
  replace B := hide (Below.then_ B.out hb)
  replace R_m := hide R_m
  clear hb
  go_wp2_with fail
  refine (quo_any R_b.out R_g.out (Nat.le_refl _) g2.out hg1.out e_d.out).mono ?_
  rintro e w3 ⟨A_d, c_d, A_y2, c_y2, r_y2, rfl, R_d, hb⟩
  replace R_a := hide (Rd.then_ R_a.out hb)
  replace R_b := hide (Rd.then_ R_b.out hb)
  replace R_g := hide (Rd.then_ R_g.out hb)
  replace R_m := hide (Rd.then_ R_m.out hb)
  have U3 : Below W.heap.size W w3 := Below.then_ U2 hb
  replace B := hide (Below.then_ B.out hb)
  replace R_d := hide R_d
  clear hb
  go_wp2_with fail
  refine (imake_any _ _ _ _ _ _ _ R_m.out (Nat.le_refl _)).mono ?_
  rw [e_n.out]
  rintro e w4 ⟨A_q, c_q, rfl, R_q, hb⟩
  replace R_a := hide (Rd.then_ R_a.out hb)
  replace R_b := hide (Rd.then_ R_b.out hb)
  replace R_g := hide (Rd.then_ R_g.out hb)
  replace R_m := hide (Rd.then_ R_m.out hb)
  replace R_d := hide (Rd.then_ R_d.out hb)
  have U4 : Below W.heap.size W w4 := Below.then_ U3 hb
  replace B := hide (Below.then_ B.out hb)
  replace R_q := hide R_q
  clear hb
  have R_qd := R_d
  go_wp2
  exact bodyPost_ret (v := .agg #[.bool (zneg q.num), .slice A_q (dig (zmag q.num)).length c_q, .slice A_d (dig q.den).length c_d]) (by simp [results, Try.results59, go_sem, c_r00 _ U4, c_r01 _ U4, c_r02 _ U4]) rfl (RetRat.box B.out (by omega) (c_r00 _ U4) (c_r01 _ U4) (c_r02 _ U4) R_q.out R_qd.out)

theorem reduced_any {w : World} {Bd : Nat} {A_a : Option Addr} {n_a c_a : Nat} {x_a : List Nat} {s_a : Bool} {A_b : Option Addr} {n_b c_b : Nat} {x_b : List Nat} (h_a : Rd w Bd A_a n_a c_a x_a) (g_a : n_a ≤ 10000000000) (h_b : Rd w Bd A_b n_b c_b x_b) (g_b : n_b ≤ 10000000000) (hB : Bd ≤ w.heap.size) {q : Rat} (hq : qv s_a (val x_a) (val x_b) = q) :
    Calls Try.prog 59 #[.agg #[.bool s_a, .slice A_a n_a c_a], .slice A_b n_b c_b] w (RetRat w q) := by
  by_cases h0 : val x_b = 0
  · exact reduced_0 h_a g_a h_b g_b hB h0 (by rw [← hq, h0, qv_zero])
  · exact reduced_1 h_a g_a h_b g_b hB h0 hq

set_option maxHeartbeats 4000000 in
theorem parts_0 {w : World} {Bd : Nat} {A_a : Option Addr} {n_a c_a : Nat} {x_a : List Nat} {s_a : Bool} {A_ad : Option Addr} {n_ad c_ad : Nat} {x_ad : List Nat} (h_a : Rd w Bd A_a n_a c_a x_a) (_g_a : n_a ≤ 1000000000) (h_ad : Rd w Bd A_ad n_ad c_ad x_ad) (_g_ad : n_ad ≤ 1000000000) (hB : Bd ≤ w.heap.size) {q : Rat} (h0 : val x_ad = 0) (hq : (0 : Rat) = q) :
    Calls Try.prog 61 #[.agg #[.bool s_a, .slice A_a n_a c_a, .slice A_ad n_ad c_ad]] w (RetParts w q) := by
  have hbl : bl (val x_ad) = 0 := by rw [h0, bl_zero]
  replace hbl := hide hbl
  clear h0
  replace hq := hide hq
  obtain ⟨W, hW⟩ : ∃ W, W = ((w.alloc (.cells #[.bool s_a, .slice A_a n_a c_a, .slice A_ad n_ad c_ad] 27)).alloc (.cells #[.bool false, .slice none 0 0] 25)) := ⟨_, rfl⟩
  have b_a : Box3 W (w.heap.size) (.bool s_a) (.slice A_a n_a c_a) (.slice A_ad n_ad c_ad) := by rw [hW]; exact ((Box3.new w _ _ _ rfl).al _)
  have b_r0 : Box W (w.heap.size + 1) (.bool false) (.slice none 0 0) := by rw [hW]; exact (Box.new _ _ _ (by simp))
  have hwW : Below w.heap.size w W := by rw [hW]; exact (((Below.refl _ _).alloc (Nat.le_refl _) _).alloc (by simp) _)
  have R_a := hide (Rd.upto h_a hwW hB)
  clear h_a
  have R_ad := hide (Rd.upto h_ad hwW hB)
  clear h_ad
  have B := hide hwW
  clear hwW
  clear hB
  have U0 : Below W.heap.size W W := Below.refl _ _
  have c_a0 := b_a.at0 b_a.lt_size (Nat.le_refl _)
  have c_a1 := b_a.at1 b_a.lt_size (Nat.le_refl _)
  have c_a2 := b_a.at2 b_a.lt_size (Nat.le_refl _)
  replace b_a := hide b_a
  have c_r00 := b_r0.at0 b_r0.lt_size (Nat.le_refl _)
  have c_r01 := b_r0.at1 b_r0.lt_size (Nat.le_refl _)
  have f_r00 := b_r0.free0 b_r0.lt_size (Nat.le_refl _)
  have f_r01 := b_r0.free1 b_r0.lt_size (Nat.le_refl _)
  have l_r0 := b_r0.lt b_r0.lt_size (Nat.le_refl _)
  replace b_r0 := hide b_r0
  go_enter Try.func61, Try.ntmps61
  go_wp2_with fail
  rw [← hW]
  clear hW
  refine (bits_any _ _ _ _ _ _ R_ad.out).mono ?_
  rw [hbl.out]
  rintro e w' ⟨rfl, rfl⟩
  go_wp2_with fail
  refine (of_any _ 1 (by omega)).mono ?_
  rintro e w1 ⟨A_d, c_d, rfl, R_d, hb⟩
  replace R_a := hide (Rd.then_ R_a.out hb)
  replace R_ad := hide (Rd.then_ R_ad.out hb)
  have U1 : Below W.heap.size W w1 := Below.then_ U0 hb
  replace B := hide (Below.then_ B.out hb)
  replace R_d := hide R_d
  clear hb
  go_wp2
  exact bodyPost_ret (v := .tuple #[.agg #[.bool false, .slice none 0 0], .slice A_d (dig 1).length c_d]) (by simp [results, Try.results61, go_sem, c_r00 _ U1, c_r01 _ U1]) rfl ⟨false, none, 0, 0, [], A_d, _, c_d, _, rfl, Rd.empty _ _ _ (by omega), by simpa using (R_d.out.far (c_r00 _ U1) (fun x h => by cases h)).far ((World.cell?_setCell_other _ _ _ _ (by simp)).trans (c_r01 _ U1)) (fun x h => by cases h), by omega, by rw [dig_one]; exact (by omega : 1 ≤ 1000000000), by rw [val_dig]; omega, by rw [val_nil, val_dig]; exact hq.out, (B.out.setCell (by simp) _).setCell (by simp) _⟩

set_option maxHeartbeats 4000000 in
theorem parts_1 {w : World} {Bd : Nat} {A_a : Option Addr} {n_a c_a : Nat} {x_a : List Nat} {s_a : Bool} {A_ad : Option Addr} {n_ad c_ad : Nat} {x_ad : List Nat} (h_a : Rd w Bd A_a n_a c_a x_a) (g_a : n_a ≤ 1000000000) (h_ad : Rd w Bd A_ad n_ad c_ad x_ad) (g_ad : n_ad ≤ 1000000000) (hB : Bd ≤ w.heap.size) {q : Rat} (h0 : val x_ad ≠ 0) (hq : qv s_a (val x_a) (val x_ad) = q) :
    Calls Try.prog 61 #[.agg #[.bool s_a, .slice A_a n_a c_a, .slice A_ad n_ad c_ad]] w (RetParts w q) := by
  have hbl := ofne h0
  replace h0 := hide h0
  replace hq := hide hq
  obtain ⟨W, hW⟩ : ∃ W, W = ((w.alloc (.cells #[.bool s_a, .slice A_a n_a c_a, .slice A_ad n_ad c_ad] 27)).alloc (.cells #[.bool false, .slice none 0 0] 25)) := ⟨_, rfl⟩
  have b_a : Box3 W (w.heap.size) (.bool s_a) (.slice A_a n_a c_a) (.slice A_ad n_ad c_ad) := by rw [hW]; exact ((Box3.new w _ _ _ rfl).al _)
  have b_r0 : Box W (w.heap.size + 1) (.bool false) (.slice none 0 0) := by rw [hW]; exact (Box.new _ _ _ (by simp))
  have hwW : Below w.heap.size w W := by rw [hW]; exact (((Below.refl _ _).alloc (Nat.le_refl _) _).alloc (by simp) _)
  have R_a := hide (Rd.upto h_a hwW hB)
  clear h_a
  have R_ad := hide (Rd.upto h_ad hwW hB)
  clear h_ad
  have B := hide hwW
  clear hwW
  clear hB
  have U0 : Below W.heap.size W W := Below.refl _ _
  have c_a0 := b_a.at0 b_a.lt_size (Nat.le_refl _)
  have c_a1 := b_a.at1 b_a.lt_size (Nat.le_refl _)
  have c_a2 := b_a.at2 b_a.lt_size (Nat.le_refl _)
  replace b_a := hide b_a
  have c_r00 := b_r0.at0 b_r0.lt_size (Nat.le_refl _)
  have c_r01 := b_r0.at1 b_r0.lt_size (Nat.le_refl _)
  have f_r00 := b_r0.free0 b_r0.lt_size (Nat.le_refl _)
  have f_r01 := b_r0.free1 b_r0.lt_size (Nat.le_refl _)
  have l_r0 := b_r0.lt b_r0.lt_size (Nat.le_refl _)
  replace b_r0 := hide b_r0
  go_enter Try.func61, Try.ntmps61
  go_wp2_with fail
  rw [← hW]
  clear hW
  refine (bits_any _ _ _ _ _ _ R_ad.out).mono ?_
  rintro e w' ⟨rfl, rfl⟩
  go_wp2_with fail
  have k_a0 := b_a.out.but0 (g1 := w.heap.size + 1) (g2 := w.heap.size + 1) (by omega) (by omega)
  have k_a1 := b_a.out.but1 (g1 := w.heap.size + 1) (g2 := w.heap.size + 1) (by omega) (by omega)
  have k_a2 := b_a.out.but2 (g1 := w.heap.size + 1) (g2 := w.heap.size + 1) (by omega) (by omega)
  have hd := Below.drw_ W
  replace R_a := hide (Rd.then_ R_a.out hd)
  replace R_ad := hide (Rd.then_ R_ad.out hd)
  have U1 : Below W.heap.size W (W.drew) := Below.then_ U0 hd
  replace B := hide (Below.then_ B.out hd)
  have K1 : KeptBut (w.heap.size + 1) (w.heap.size + 1) W.heap.size W (W.drew) := KeptBut.below U1
  clear hd
  have tok0 : True := trivial
  go_region_held3 (fun w' => KeptBut (w.heap.size + 1) (w.heap.size + 1) W.heap.size W w') (first | assumption | (with_reducible exact KeptBut.drw _) | ((repeat (first | (with_reducible refine KeptBut.set0 ?_ _) | (with_reducible refine KeptBut.drew_ ?_))); first | assumption | (with_reducible exact KeptBut.refl _ _ _ _)))
    (first
      | fail)
  clear tok0
  clear k_a0 k_a1 k_a2
  go_wp2
  rw [drew_set2]
  exact bodyPost_ret (v := .tuple #[.agg #[.bool s_a, .slice A_a n_a c_a], .slice A_ad n_ad c_ad]) (by simp [results, Try.results61, go_sem, c_r00 _ U0, c_r01 _ U0]) rfl ⟨s_a, A_a, n_a, c_a, x_a, A_ad, n_ad, c_ad, x_ad, rfl, by simpa using (R_a.out.far (c_r00 _ U1) (fun x h => by cases h)).far ((World.cell?_setCell_other _ _ _ _ (by simp)).trans (c_r01 _ U1)) (fun x h => by cases h), by simpa using (R_ad.out.far (c_r00 _ U1) (fun x h => by cases h)).far ((World.cell?_setCell_other _ _ _ _ (by simp)).trans (c_r01 _ U1)) (fun x h => by cases h), g_a, g_ad, h0.out, hq.out, (B.out.setCell (by simp) _).setCell (by simp) _⟩

theorem parts_any {w : World} {Bd : Nat} {A_a : Option Addr} {n_a c_a : Nat} {x_a : List Nat} {s_a : Bool} {A_ad : Option Addr} {n_ad c_ad : Nat} {x_ad : List Nat} (h_a : Rd w Bd A_a n_a c_a x_a) (g_a : n_a ≤ 1000000000) (h_ad : Rd w Bd A_ad n_ad c_ad x_ad) (g_ad : n_ad ≤ 1000000000) (hB : Bd ≤ w.heap.size) {q : Rat} (hq : qv s_a (val x_a) (val x_ad) = q) :
    Calls Try.prog 61 #[.agg #[.bool s_a, .slice A_a n_a c_a, .slice A_ad n_ad c_ad]] w (RetParts w q) := by
  by_cases h0 : val x_ad = 0
  · exact parts_0 h_a g_a h_ad g_ad hB h0 (by rw [← hq, h0, qv_zero])
  · exact parts_1 h_a g_a h_ad g_ad hB h0 hq
end
end Go.Proofs.Ytdihgmbldnekhaa
