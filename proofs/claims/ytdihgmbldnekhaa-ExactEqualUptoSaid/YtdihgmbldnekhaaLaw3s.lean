/-
  Same3, Law3, Normal, Law3m, Two3.
-/
import Derived.Test.YtdihgmbldnekhaaRatA
import Derived.Test.YtdihgmbldnekhaaRRatB
import Derived.Test.YtdihgmbldnekhaaRatB
namespace Go.Proofs.Ytdihgmbldnekhaa
section
open Go.RowKit


theorem drw_q (W : World) (q : Nat) : Below W.heap.size W (W.drewN q) := below_drewN (Below.refl _ _) q

end

section
open Go.RowKit


/-- lengths of quotients -/
theorem sz_mk {a : Int} {d i : Nat} (ha : zmag a < pw i) (hd : d < pw i) (hi : 1 ≤ i) : (dig (zmag (mkRat a d).num)).length ≤ i ∧ (dig (mkRat a d).den).length ≤ i := by
  by_cases h0 : d = 0
  · subst h0
    rw [Rat.mkRat_zero, q0num, q0den, show zmag 0 = 0 from rfl, dig_zero, dig_one]
    exact ⟨Nat.zero_le _, hi⟩
  · rw [← iv_eta a]
    have h1 := qv_num (zneg a) (zmag a) h0
    have h2 := qv_den (zneg a) (zmag a) h0
    unfold qv at h1 h2
    rw [h1, h2, zmag_iv]
    exact ⟨dl (Nat.lt_of_le_of_lt (Nat.div_le_self _ _) ha), dl (Nat.lt_of_le_of_lt (Nat.div_le_self _ _) hd)⟩
theorem sz_lt {q : Rat} {i : Nat} (h : (dig (zmag q.num)).length ≤ i ∧ (dig q.den).length ≤ i) : zmag q.num < pw i ∧ q.den < pw i ∧ 1 ≤ i :=
  ⟨(dig_len_le _ _).1 h.1, (dig_len_le _ _).1 h.2, by have := mt dig_len_zero.1 q.den_nz; omega⟩
theorem sz_qv {s : Bool} {m d i : Nat} (hm : m < pw i) (hd : d < pw i) : (dig (zmag (qv s m d).num)).length ≤ i + 1 ∧ (dig (qv s m d).den).length ≤ i + 1 :=
  sz_mk (zl_iv (lt_up hm)) (lt_up hd) (by omega)
theorem sz_rd {w : World} {Bd n c m d : Nat} {A B : Option Addr} {xs ys : List Nat} {s : Bool} {q : Rat} (h : Rd w Bd A n c xs) (h' : Rd w Bd B m d ys) (hq : qv s (val xs) (val ys) = q) {i : Nat} (h1 : n ≤ i) (h2 : m ≤ i) : (dig (zmag q.num)).length ≤ i + 1 ∧ (dig q.den).length ≤ i + 1 := by
  subst hq
  exact sz_qv (pw_le h1 h.lt) (pw_le h2 h'.lt)
theorem sz_add {p q r : Rat} {i j : Nat} (hr : p + q = r) (hp : (dig (zmag p.num)).length ≤ i ∧ (dig p.den).length ≤ i) (hq : (dig (zmag q.num)).length ≤ j ∧ (dig q.den).length ≤ j) : (dig (zmag r.num)).length ≤ i + j + 1 ∧ (dig r.den).length ≤ i + j + 1 := by
  subst hr
  obtain ⟨p1, p2, p3⟩ := sz_lt hp
  obtain ⟨q1, q2, q3⟩ := sz_lt hq
  have h := mk_add (a := p.num) (b := q.num) p.den_nz q.den_nz
  rw [Rat.mkRat_self, Rat.mkRat_self] at h
  rw [h]
  refine sz_mk ?_ (lt_up (lt_mul p2 q2)) (by omega)
  exact pw_le (by omega) (zl_add (zl_mul p1 (zl_nat q2)) (zl_mul q1 (zl_nat p2)))
theorem sz_neg {p r : Rat} {i : Nat} (hr : -p = r) (hp : (dig (zmag p.num)).length ≤ i ∧ (dig p.den).length ≤ i) : (dig (zmag r.num)).length ≤ i ∧ (dig r.den).length ≤ i := by
  subst hr
  rw [Rat.neg_num, Rat.neg_den, show zmag (-p.num) = zmag p.num from Int.natAbs_neg _]
  exact hp
theorem sz_sub {p q r : Rat} {i j : Nat} (hr : p - q = r) (hp : (dig (zmag p.num)).length ≤ i ∧ (dig p.den).length ≤ i) (hq : (dig (zmag q.num)).length ≤ j ∧ (dig q.den).length ≤ j) : (dig (zmag r.num)).length ≤ i + j + 1 ∧ (dig r.den).length ≤ i + j + 1 :=
  sz_add (by rw [← Rat.sub_eq_add_neg]; exact hr) hp (sz_neg rfl hq)
theorem sz_mul {p q r : Rat} {i j : Nat} (hr : p * q = r) (hp : (dig (zmag p.num)).length ≤ i ∧ (dig p.den).length ≤ i) (hq : (dig (zmag q.num)).length ≤ j ∧ (dig q.den).length ≤ j) : (dig (zmag r.num)).length ≤ i + j ∧ (dig r.den).length ≤ i + j := by
  subst hr
  obtain ⟨p1, p2, p3⟩ := sz_lt hp
  obtain ⟨q1, q2, q3⟩ := sz_lt hq
  have h := mk_mul p.num q.num p.den q.den
  rw [Rat.mkRat_self, Rat.mkRat_self] at h
  rw [h]
  exact sz_mk (zl_mul p1 q1) (lt_mul p2 q2) (by omega)
theorem sz_divInt {a b : Int} {r : Rat} {i : Nat} (hr : Rat.divInt a b = r) (ha : zmag a < pw i) (hb : zmag b < pw i) (hi : 1 ≤ i) : (dig (zmag r.num)).length ≤ i ∧ (dig r.den).length ≤ i := by
  subst hr
  rw [← iv_eta a, ← iv_eta b, ← qv_div]
  unfold qv
  exact sz_mk (zl_iv ha) hb hi
theorem sz_div {p q r : Rat} {i j : Nat} (hr : p / q = r) (hp : (dig (zmag p.num)).length ≤ i ∧ (dig p.den).length ≤ i) (hq : (dig (zmag q.num)).length ≤ j ∧ (dig q.den).length ≤ j) : (dig (zmag r.num)).length ≤ i + j ∧ (dig r.den).length ≤ i + j := by
  obtain ⟨p1, p2, p3⟩ := sz_lt hp
  obtain ⟨q1, q2, q3⟩ := sz_lt hq
  have h := mk_div (a := p.num) (b := q.num) p.den_nz q.den_nz
  rw [Rat.mkRat_self, Rat.mkRat_self] at h
  refine sz_divInt (by rw [← h]; exact hr) (zl_mul p1 (zl_nat q2)) ?_ (by omega)
  rw [Nat.add_comm]
  exact zl_mul q1 (zl_nat p2)
/-- the box with the ratio in it -/
def LandedR (W w' : World) (g : Nat) (q : Rat) (A : Option Addr) (c : Nat) (B : Option Addr) (d : Nat) : Prop :=
  Below W.heap.size W w' ∧ Box3 w' g (.bool (zneg q.num)) (.slice A (dig (zmag q.num)).length c) (.slice B (dig q.den).length d) ∧ Rd w' w'.heap.size A (dig (zmag q.num)).length c (dig (zmag q.num)) ∧ Rd w' w'.heap.size B (dig q.den).length d (dig q.den) ∧ W.heap.size ≤ g
theorem LandedR.below {W w' : World} {g : Nat} {q : Rat} {A B : Option Addr} {c d : Nat} (h : LandedR W w' g q A c B d) : Below W.heap.size W w' := h.1
theorem landedR_new {W w : World} {q : Rat} {A B : Option Addr} {c d : Nat} (h : Below W.heap.size W w) (R : Rd w w.heap.size A (dig (zmag q.num)).length c (dig (zmag q.num))) (R' : Rd w w.heap.size B (dig q.den).length d (dig q.den)) :
    LandedR W (w.alloc (.cells #[.bool (zneg q.num), .slice A (dig (zmag q.num)).length c, .slice B (dig q.den).length d] 27)) w.heap.size q A c B d := ⟨Below.al_ h _, Box3.new w _ _ _ rfl, R.al_, R'.al_, h.size⟩
theorem landedR_set {W w : World} {g : Nat} {q : Rat} {A B : Option Addr} {c d : Nat} (h : Below W.heap.size W w) (R : Rd w w.heap.size A (dig (zmag q.num)).length c (dig (zmag q.num))) (R' : Rd w w.heap.size B (dig q.den).length d (dig q.den)) (X : XBox3 W w g) :
    LandedR W (((w.setCell ⟨g, 0, none⟩ (.bool (zneg q.num))).setCell ⟨g, 1, none⟩ (.slice A (dig (zmag q.num)).length c)).setCell ⟨g, 2, none⟩ (.slice B (dig q.den).length d)) g q A c B d := by
  obtain ⟨c0, c1, c2, _, _, _, _⟩ := X.facts
  exact ⟨((h.setCell X.2 _).setCell X.2 _).setCell X.2 _, Box3.set X.1 _ _ _, by simpa using far3 c0 c1 c2 _ _ _ R, by simpa using far3 c0 c1 c2 _ _ _ R', X.2⟩
theorem landedR_late {W w : World} {q : Rat} {A B : Option Addr} {c d : Nat} (h : Below W.heap.size W w) (R : Rd w w.heap.size A (dig (zmag q.num)).length c (dig (zmag q.num))) (R' : Rd w w.heap.size B (dig q.den).length d (dig q.den)) :
    LandedR W ((((w.alloc (.cells #[.bool false, .slice none 0 0, .slice none 0 0] 27)).setCell ⟨w.heap.size, 0, none⟩ (.bool (zneg q.num))).setCell ⟨w.heap.size, 1, none⟩ (.slice A (dig (zmag q.num)).length c)).setCell ⟨w.heap.size, 2, none⟩ (.slice B (dig q.den).length d)) w.heap.size q A c B d :=
  landedR_set (Below.al_ h _) R.al_ R'.al_ ⟨Box3.new w _ _ _ rfl, h.size⟩
/-- orders -/
theorem sgn_le {x y : Rat} (h : x ≤ y) : sgn (x - y).num ≤ 0 := by
  have h1 := Rat.num_nonneg.2 ((Rat.le_iff_sub_nonneg x y).1 h)
  have h2 : (x - y).num = -(y - x).num := by rw [← Rat.neg_num, Rat.neg_sub]
  rw [h2]
  unfold sgn
  rcases Int.lt_or_eq_of_le h1 with h3 | h3
  · rw [Int.sign_neg, Int.sign_eq_one_of_pos h3]; omega
  · rw [← h3]; decide
theorem sgn_lt {x y : Rat} (h : x < y) : sgn (x - y).num < 0 := by
  have h1 := sgn_le (Rat.le_of_lt h)
  have h2 : sgn (x - y).num ≠ 0 := fun e => by
    have e2 := Rat.num_eq_zero.1 ((sgn_zero_iff _).1 e)
    have e3 : x = y := by
      have := Rat.sub_add_cancel (a := x) (b := y)
      rw [e2, Rat.zero_add] at this
      exact this.symm
    exact Rat.ne_of_lt h e3
  omega
theorem divInt_one (z : Int) : Rat.divInt z 1 = (z : Rat) := by
  have h := Rat.divInt_ofNat z 1
  rw [show ((1 : Nat) : Int) = 1 from rfl] at h
  rw [h]
  have h2 := Rat.mkRat_self (z : Rat)
  rwa [Rat.num_intCast, Rat.den_intCast] at h2
theorem rmul3w_any {w : World} {Bd : Nat} {A_a : Option Addr} {n_a c_a : Nat} {x_a : List Nat} {s_a : Bool} {A_ad : Option Addr} {n_ad c_ad : Nat} {x_ad : List Nat} {A_b : Option Addr} {n_b c_b : Nat} {x_b : List Nat} {s_b : Bool} {A_bd : Option Addr} {n_bd c_bd : Nat} {x_bd : List Nat} (h_a : Rd w Bd A_a n_a c_a x_a) (g_a : n_a ≤ 1000000000) (h_ad : Rd w Bd A_ad n_ad c_ad x_ad) (g_ad : n_ad ≤ 1000000000) (h_b : Rd w Bd A_b n_b c_b x_b) (g_b : n_b ≤ 1000000000) (h_bd : Rd w Bd A_bd n_bd c_bd x_bd) (g_bd : n_bd ≤ 1000000000) (hB : Bd ≤ w.heap.size) {q : Rat} (hq : qv s_a (val x_a) (val x_ad) * qv s_b (val x_b) (val x_bd) = q) :
    Calls Try.prog 69 #[.agg #[.bool s_a, .slice A_a n_a c_a, .slice A_ad n_ad c_ad], .agg #[.bool s_b, .slice A_b n_b c_b, .slice A_bd n_bd c_bd]] w (RetRat w q) :=
  rmul3_any h_a (by omega) h_ad (by omega) h_b (by omega) h_bd (by omega) hB hq
end

section
open Go.RowKit


theorem gcd1_any {w : World} {Bd : Nat} {A A' : Option Addr} {n c n' c' : Nat} {xs ys : List Nat} (hx : Rd w Bd A n c xs) (hy : Rd w Bd A' n' c' ys) (hB : Bd ≤ w.heap.size) (hn : n + 1 ≤ 70368744177664) (hn' : n' + 1 ≤ 70368744177664) (hg : Nat.gcd (val xs) (val ys) = 1) :
    Calls Try.prog 92 #[.slice A n c, .slice A' n' c'] w (fun e w' => ∃ A c, e = .returned (.slice (some A) 1 c) ∧ Rd w' w'.heap.size (some A) 1 c [1] ∧ Below w.heap.size w w') :=
  (gcd_any w Bd A A' n c n' c' xs ys hx hy hB hn hn').mono fun e w' h => by
    rw [hg] at h
    obtain ⟨A, c, rfl, R, hb⟩ := h
    rw [dig_one] at *
    obtain ⟨ad, rfl, _, _⟩ := R.at_ (k := 0) (by simp)
    exact ⟨ad, c, rfl, R, hb⟩

end

section
open Go.RowKit


theorem pnorm1_any {w : World} {Bd : Nat} {A_a : Option Addr} {n_a c_a : Nat} {x_a : List Nat} {s_a : Bool} {A_ad : Option Addr} {n_ad c_ad : Nat} {x_ad : List Nat} (h_a : Rd w Bd A_a n_a c_a x_a) (g_a : n_a ≤ 1000000000) (h_ad : Rd w Bd A_ad n_ad c_ad x_ad) (g_ad : n_ad ≤ 1000000000) (hB : Bd ≤ w.heap.size) {q : Rat} (hq : qv s_a (val x_a) (val x_ad) = q) :
    Calls Try.prog 78 #[.agg #[.bool s_a, .slice A_a n_a c_a, .slice A_ad n_ad c_ad]] w (RetRat w q) := pnorm_any h_a (by omega) h_ad (by omega) hB hq
theorem sgn_neg (z : Int) : sgn (-z) = -sgn z := Int.sign_neg z
theorem sgn_bnd (z : Int) : sgn z = -1 ∨ sgn z = 0 ∨ sgn z = 1 := by have := sgn_three z; omega
theorem wrap_sgn (z : Int) : IntKind.i64.wrap (sgn z) = sgn z := by
  rcases sgn_bnd z with h | h | h <;> rw [h] <;> decide
theorem wrap_sgn_mul (y z : Int) : IntKind.i64.wrap (sgn y * sgn z) = sgn y * sgn z := by
  rcases sgn_bnd y with h | h | h <;> rcases sgn_bnd z with g | g | g <;> rw [h, g] <;> decide
theorem add_sub_add (x y z : Rat) : x + z - (y + z) = x - y := by
  rw [Rat.sub_eq_add_neg, Rat.neg_add, Rat.add_assoc, ← Rat.add_assoc z, Rat.add_comm z, Rat.add_assoc (-y), Rat.add_neg_cancel, Rat.add_zero, ← Rat.sub_eq_add_neg]
theorem sub_mul' (x y z : Rat) : (x - y) * z = x * z - y * z := by
  rw [Rat.sub_eq_add_neg, Rat.add_mul, Rat.neg_mul, ← Rat.sub_eq_add_neg]
theorem sgn_qmul (x y : Rat) : sgn (x * y).num = sgn x.num * sgn y.num := by
  have h := mk_mul x.num y.num x.den y.den
  rw [Rat.mkRat_self, Rat.mkRat_self] at h
  rw [h, sgn_mk (Nat.mul_ne_zero x.den_nz y.den_nz)]
  exact Int.sign_mul _ _
end

section
open Go.RowKit

theorem Below.al2_then {w w' : World} {o o' : Obj} (h : Below ((w.alloc o).alloc o').heap.size ((w.alloc o).alloc o') w') : Below w.heap.size w w' := Below.al_then (Below.al_then h)
theorem Below.al2_then_drew {w w' : World} {o o' : Obj} (h : Below ((w.alloc o).alloc o').drew.heap.size ((w.alloc o).alloc o').drew w') : Below w.drew.heap.size w.drew w' := Below.al2_then (w := w.drew) (o := o) (o' := o') h
theorem Below.al2_drew {W w' : World} (h : Below W.heap.size W w') (o o' : Obj) : Below W.heap.size W ((w'.alloc o).alloc o').drew := Below.al_ (w' := (w'.drew).alloc o) (Below.al_ (w' := w'.drew) (h.trans ((Below.drw_ w').mono h.size)) o) o'
theorem Rd.al2_drew {w : World} {A : Option Addr} {n c : Nat} {xs : List Nat} {o o' : Obj} (h : Rd w.drew w.drew.heap.size A n c xs) : Rd ((w.alloc o).alloc o').drew ((w.alloc o).alloc o').drew.heap.size A n c xs := Rd.al_ (w := (w.drew).alloc o) (o := o') (Rd.al_ (w := w.drew) (o := o) h)
theorem XBox.apart {W w : World} {g : Nat} (h : XBox W w g) : g ≠ w.heap.size ∧ w.heap.size ≠ g := by have := h.1.lt_size; omega
theorem XBox.made2a {W w w' : World} (h : Below W.heap.size W w) (hb : Below ((w.alloc (.cells #[.bool false, .slice none 0 0] 25)).alloc (.cells #[.bool false, .slice none 0 0] 25)).heap.size ((w.alloc (.cells #[.bool false, .slice none 0 0] 25)).alloc (.cells #[.bool false, .slice none 0 0] 25)) w') : XBox W w' w.heap.size :=
  ⟨Box.keep ((Box.new w _ _ rfl).al _) hb, h.size⟩
theorem XBox.made2b {W w w' : World} (h : Below W.heap.size W w) (hb : Below ((w.alloc (.cells #[.bool false, .slice none 0 0] 25)).alloc (.cells #[.bool false, .slice none 0 0] 25)).heap.size ((w.alloc (.cells #[.bool false, .slice none 0 0] 25)).alloc (.cells #[.bool false, .slice none 0 0] 25)) w') : XBox W w' (w.heap.size + 1) :=
  ⟨Box.keep (Box.new _ _ _ (by simp)) hb, by have := h.size; omega⟩
theorem XBox.made2a_drew {W w w' : World} (h : Below W.heap.size W w.drew) (hb : Below ((w.alloc (.cells #[.bool false, .slice none 0 0] 25)).alloc (.cells #[.bool false, .slice none 0 0] 25)).drew.heap.size ((w.alloc (.cells #[.bool false, .slice none 0 0] 25)).alloc (.cells #[.bool false, .slice none 0 0] 25)).drew w') : XBox W w' w.heap.size := XBox.made2a (w := w.drew) h hb
theorem XBox.made2b_drew {W w w' : World} (h : Below W.heap.size W w.drew) (hb : Below ((w.alloc (.cells #[.bool false, .slice none 0 0] 25)).alloc (.cells #[.bool false, .slice none 0 0] 25)).drew.heap.size ((w.alloc (.cells #[.bool false, .slice none 0 0] 25)).alloc (.cells #[.bool false, .slice none 0 0] 25)).drew w') : XBox W w' (w.heap.size + 1) := XBox.made2b (w := w.drew) h hb
def Land2 (W w' : World) (g : Nat) (q : Int) (A : Option Addr) (c : Nat) (h : Nat) (q' : Int) (A' : Option Addr) (c' : Nat) : Prop :=
  Below W.heap.size W w' ∧ Box w' g (.bool (zneg q)) (.slice A (dig (zmag q)).length c) ∧ Box w' h (.bool (zneg q')) (.slice A' (dig (zmag q')).length c') ∧ Rd w' w'.heap.size A (dig (zmag q)).length c (dig (zmag q)) ∧ Rd w' w'.heap.size A' (dig (zmag q')).length c' (dig (zmag q')) ∧ W.heap.size ≤ g ∧ W.heap.size ≤ h ∧ g ≠ h
theorem land2_ll {W w : World} {q q' : Int} {A A' : Option Addr} {c c' : Nat} (h : Below W.heap.size W w) (R0 : Rd w w.heap.size A (dig (zmag q)).length c (dig (zmag q))) (R1 : Rd w w.heap.size A' (dig (zmag q')).length c' (dig (zmag q'))) : Land2 W ((w.alloc (.cells #[.bool (zneg q), .slice A (dig (zmag q)).length c] 25)).alloc (.cells #[.bool (zneg q'), .slice A' (dig (zmag q')).length c'] 25)) w.heap.size q A c (w.heap.size + 1) q' A' c' :=
  ⟨Below.al_ (Below.al_ h _) _, (Box.new w _ _ rfl).al _, Box.new _ _ _ (by simp), R0.al_.al_, R1.al_.al_, h.size, by have := h.size; omega, by omega⟩
theorem land2_rr {W w : World} {q q' : Int} {A A' : Option Addr} {c c' : Nat} (h : Below W.heap.size W w) (R0 : Rd w w.heap.size A (dig (zmag q)).length c (dig (zmag q))) (R1 : Rd w w.heap.size A' (dig (zmag q')).length c' (dig (zmag q'))) : Land2 W ((w.alloc (.cells #[.bool (zneg q'), .slice A' (dig (zmag q')).length c'] 25)).alloc (.cells #[.bool (zneg q), .slice A (dig (zmag q)).length c] 25)) (w.heap.size + 1) q A c w.heap.size q' A' c' :=
  ⟨Below.al_ (Below.al_ h _) _, Box.new _ _ _ (by simp), (Box.new w _ _ rfl).al _, R0.al_.al_, R1.al_.al_, by have := h.size; omega, h.size, by omega⟩
theorem land2_xl {W w : World} {q q' : Int} {A A' : Option Addr} {c c' : Nat} {g : Nat} (h : Below W.heap.size W w) (R0 : Rd w w.heap.size A (dig (zmag q)).length c (dig (zmag q))) (R1 : Rd w w.heap.size A' (dig (zmag q')).length c' (dig (zmag q'))) (X : XBox W w g) : Land2 W (((w.setCell ⟨g, 0, none⟩ (.bool (zneg q))).setCell ⟨g, 1, none⟩ (.slice A (dig (zmag q)).length c)).alloc (.cells #[.bool (zneg q'), .slice A' (dig (zmag q')).length c'] 25)) g q A c w.heap.size q' A' c' := by
  obtain ⟨c0, c1, _, _, _⟩ := X.facts
  exact ⟨Below.al_ (((h.setCell X.2 _).setCell X.2 _)) _, (Box.set X.1 _ _).al _, Box.new _ _ _ (by simp), (show Rd ((w.setCell ⟨g, 0, none⟩ (.bool (zneg q))).setCell ⟨g, 1, none⟩ (.slice A (dig (zmag q)).length c)) ((w.setCell ⟨g, 0, none⟩ (.bool (zneg q))).setCell ⟨g, 1, none⟩ (.slice A (dig (zmag q)).length c)).heap.size _ _ _ _ by simpa using far2 c0 c1 _ _ R0).al_, (show Rd ((w.setCell ⟨g, 0, none⟩ (.bool (zneg q))).setCell ⟨g, 1, none⟩ (.slice A (dig (zmag q)).length c)) ((w.setCell ⟨g, 0, none⟩ (.bool (zneg q))).setCell ⟨g, 1, none⟩ (.slice A (dig (zmag q)).length c)).heap.size _ _ _ _ by simpa using far2 c0 c1 _ _ R1).al_, X.2, h.size, by have := X.1.lt_size; omega⟩
theorem land2_lx {W w : World} {q q' : Int} {A A' : Option Addr} {c c' : Nat} {g : Nat} (h : Below W.heap.size W w) (R0 : Rd w w.heap.size A (dig (zmag q)).length c (dig (zmag q))) (R1 : Rd w w.heap.size A' (dig (zmag q')).length c' (dig (zmag q'))) (X : XBox W w g) : Land2 W (((w.setCell ⟨g, 0, none⟩ (.bool (zneg q'))).setCell ⟨g, 1, none⟩ (.slice A' (dig (zmag q')).length c')).alloc (.cells #[.bool (zneg q), .slice A (dig (zmag q)).length c] 25)) w.heap.size q A c g q' A' c' := by
  obtain ⟨c0, c1, _, _, _⟩ := X.facts
  exact ⟨Below.al_ (((h.setCell X.2 _).setCell X.2 _)) _, Box.new _ _ _ (by simp), (Box.set X.1 _ _).al _, (show Rd ((w.setCell ⟨g, 0, none⟩ (.bool (zneg q'))).setCell ⟨g, 1, none⟩ (.slice A' (dig (zmag q')).length c')) ((w.setCell ⟨g, 0, none⟩ (.bool (zneg q'))).setCell ⟨g, 1, none⟩ (.slice A' (dig (zmag q')).length c')).heap.size _ _ _ _ by simpa using far2 c0 c1 _ _ R0).al_, (show Rd ((w.setCell ⟨g, 0, none⟩ (.bool (zneg q'))).setCell ⟨g, 1, none⟩ (.slice A' (dig (zmag q')).length c')) ((w.setCell ⟨g, 0, none⟩ (.bool (zneg q'))).setCell ⟨g, 1, none⟩ (.slice A' (dig (zmag q')).length c')).heap.size _ _ _ _ by simpa using far2 c0 c1 _ _ R1).al_, h.size, X.2, by have := X.1.lt_size; omega⟩
theorem land2_set {W w : World} {q q' : Int} {A A' : Option Addr} {c c' : Nat} {g k : Nat} (h : Below W.heap.size W w) (R0 : Rd w w.heap.size A (dig (zmag q)).length c (dig (zmag q))) (R1 : Rd w w.heap.size A' (dig (zmag q')).length c' (dig (zmag q'))) (X : XBox W w g) (Y : XBox W w k) (hne : g ≠ k) : Land2 W ((((w.setCell ⟨g, 0, none⟩ (.bool (zneg q))).setCell ⟨g, 1, none⟩ (.slice A (dig (zmag q)).length c)).setCell ⟨k, 0, none⟩ (.bool (zneg q'))).setCell ⟨k, 1, none⟩ (.slice A' (dig (zmag q')).length c')) g q A c k q' A' c' := by
  obtain ⟨c0, c1, _, _, _⟩ := X.facts
  have hY : Box ((w.setCell ⟨g, 0, none⟩ (.bool (zneg q))).setCell ⟨g, 1, none⟩ (.slice A (dig (zmag q)).length c)) k (.bool false) (.slice none 0 0) := (Box.other (Box.other Y.1 (Ne.symm hne) _) (Ne.symm hne) _)
  obtain ⟨y0, y1, _, _, _⟩ := box_kept_at hY hY.lt_size (Nat.le_refl _) (Below.refl _ _)
  exact ⟨((((h.setCell X.2 _).setCell X.2 _).setCell Y.2 _).setCell Y.2 _), (Box.other (Box.other (Box.set X.1 _ _) hne _) hne _), Box.set hY _ _, (show Rd ((((w.setCell ⟨g, 0, none⟩ (.bool (zneg q))).setCell ⟨g, 1, none⟩ (.slice A (dig (zmag q)).length c)).setCell ⟨k, 0, none⟩ (.bool (zneg q'))).setCell ⟨k, 1, none⟩ (.slice A' (dig (zmag q')).length c')) ((((w.setCell ⟨g, 0, none⟩ (.bool (zneg q))).setCell ⟨g, 1, none⟩ (.slice A (dig (zmag q)).length c)).setCell ⟨k, 0, none⟩ (.bool (zneg q'))).setCell ⟨k, 1, none⟩ (.slice A' (dig (zmag q')).length c')).heap.size _ _ _ _ by simpa using far2 y0 y1 _ _ (far2 c0 c1 _ _ R0)), (show Rd ((((w.setCell ⟨g, 0, none⟩ (.bool (zneg q))).setCell ⟨g, 1, none⟩ (.slice A (dig (zmag q)).length c)).setCell ⟨k, 0, none⟩ (.bool (zneg q'))).setCell ⟨k, 1, none⟩ (.slice A' (dig (zmag q')).length c')) ((((w.setCell ⟨g, 0, none⟩ (.bool (zneg q))).setCell ⟨g, 1, none⟩ (.slice A (dig (zmag q)).length c)).setCell ⟨k, 0, none⟩ (.bool (zneg q'))).setCell ⟨k, 1, none⟩ (.slice A' (dig (zmag q')).length c')).heap.size _ _ _ _ by simpa using far2 y0 y1 _ _ (far2 c0 c1 _ _ R1)), X.2, Y.2, hne⟩
theorem Below.set_ {W w : World} {g o : Nat} {v : Value} (h : Below W.heap.size W w) (hg : W.heap.size ≤ g) : Below W.heap.size W (w.setCell ⟨g, o, none⟩ v) := h.setCell hg _
theorem XBox3.apart {W w : World} {g : Nat} (h : XBox3 W w g) : g ≠ w.heap.size ∧ w.heap.size ≠ g := by have := h.1.lt_size; omega
theorem XBox3.made2a {W w w' : World} (h : Below W.heap.size W w) (hb : Below ((w.alloc (.cells #[.bool false, .slice none 0 0, .slice none 0 0] 27)).alloc (.cells #[.bool false, .slice none 0 0, .slice none 0 0] 27)).heap.size ((w.alloc (.cells #[.bool false, .slice none 0 0, .slice none 0 0] 27)).alloc (.cells #[.bool false, .slice none 0 0, .slice none 0 0] 27)) w') : XBox3 W w' w.heap.size :=
  ⟨Box3.keep ((Box3.new w _ _ _ rfl).al _) hb, h.size⟩
theorem XBox3.made2b {W w w' : World} (h : Below W.heap.size W w) (hb : Below ((w.alloc (.cells #[.bool false, .slice none 0 0, .slice none 0 0] 27)).alloc (.cells #[.bool false, .slice none 0 0, .slice none 0 0] 27)).heap.size ((w.alloc (.cells #[.bool false, .slice none 0 0, .slice none 0 0] 27)).alloc (.cells #[.bool false, .slice none 0 0, .slice none 0 0] 27)) w') : XBox3 W w' (w.heap.size + 1) :=
  ⟨Box3.keep (Box3.new _ _ _ _ (by simp)) hb, by have := h.size; omega⟩
theorem XBox3.made2a_drew {W w w' : World} (h : Below W.heap.size W w.drew) (hb : Below ((w.alloc (.cells #[.bool false, .slice none 0 0, .slice none 0 0] 27)).alloc (.cells #[.bool false, .slice none 0 0, .slice none 0 0] 27)).drew.heap.size ((w.alloc (.cells #[.bool false, .slice none 0 0, .slice none 0 0] 27)).alloc (.cells #[.bool false, .slice none 0 0, .slice none 0 0] 27)).drew w') : XBox3 W w' w.heap.size := XBox3.made2a (w := w.drew) h hb
theorem XBox3.made2b_drew {W w w' : World} (h : Below W.heap.size W w.drew) (hb : Below ((w.alloc (.cells #[.bool false, .slice none 0 0, .slice none 0 0] 27)).alloc (.cells #[.bool false, .slice none 0 0, .slice none 0 0] 27)).drew.heap.size ((w.alloc (.cells #[.bool false, .slice none 0 0, .slice none 0 0] 27)).alloc (.cells #[.bool false, .slice none 0 0, .slice none 0 0] 27)).drew w') : XBox3 W w' (w.heap.size + 1) := XBox3.made2b (w := w.drew) h hb
def Land23 (W w' : World) (g : Nat) (q : Rat) (A : Option Addr) (c : Nat) (B : Option Addr) (d : Nat) (h : Nat) (q' : Rat) (A' : Option Addr) (c' : Nat) (B' : Option Addr) (d' : Nat) : Prop :=
  Below W.heap.size W w' ∧ Box3 w' g (.bool (zneg q.num)) (.slice A (dig (zmag q.num)).length c) (.slice B (dig q.den).length d) ∧ Box3 w' h (.bool (zneg q'.num)) (.slice A' (dig (zmag q'.num)).length c') (.slice B' (dig q'.den).length d') ∧ Rd w' w'.heap.size A (dig (zmag q.num)).length c (dig (zmag q.num)) ∧ Rd w' w'.heap.size B (dig q.den).length d (dig q.den) ∧ Rd w' w'.heap.size A' (dig (zmag q'.num)).length c' (dig (zmag q'.num)) ∧ Rd w' w'.heap.size B' (dig q'.den).length d' (dig q'.den) ∧ W.heap.size ≤ g ∧ W.heap.size ≤ h ∧ g ≠ h
theorem land23_ll {W w : World} {q q' : Rat} {A A' : Option Addr} {c c' : Nat} {B B' : Option Addr} {d d' : Nat} (h : Below W.heap.size W w) (R0 : Rd w w.heap.size A (dig (zmag q.num)).length c (dig (zmag q.num))) (R1 : Rd w w.heap.size B (dig q.den).length d (dig q.den)) (R2 : Rd w w.heap.size A' (dig (zmag q'.num)).length c' (dig (zmag q'.num))) (R3 : Rd w w.heap.size B' (dig q'.den).length d' (dig q'.den)) : Land23 W ((w.alloc (.cells #[.bool (zneg q.num), .slice A (dig (zmag q.num)).length c, .slice B (dig q.den).length d] 27)).alloc (.cells #[.bool (zneg q'.num), .slice A' (dig (zmag q'.num)).length c', .slice B' (dig q'.den).length d'] 27)) w.heap.size q A c B d (w.heap.size + 1) q' A' c' B' d' :=
  ⟨Below.al_ (Below.al_ h _) _, (Box3.new w _ _ _ rfl).al _, Box3.new _ _ _ _ (by simp), R0.al_.al_, R1.al_.al_, R2.al_.al_, R3.al_.al_, h.size, by have := h.size; omega, by omega⟩
theorem land23_rr {W w : World} {q q' : Rat} {A A' : Option Addr} {c c' : Nat} {B B' : Option Addr} {d d' : Nat} (h : Below W.heap.size W w) (R0 : Rd w w.heap.size A (dig (zmag q.num)).length c (dig (zmag q.num))) (R1 : Rd w w.heap.size B (dig q.den).length d (dig q.den)) (R2 : Rd w w.heap.size A' (dig (zmag q'.num)).length c' (dig (zmag q'.num))) (R3 : Rd w w.heap.size B' (dig q'.den).length d' (dig q'.den)) : Land23 W ((w.alloc (.cells #[.bool (zneg q'.num), .slice A' (dig (zmag q'.num)).length c', .slice B' (dig q'.den).length d'] 27)).alloc (.cells #[.bool (zneg q.num), .slice A (dig (zmag q.num)).length c, .slice B (dig q.den).length d] 27)) (w.heap.size + 1) q A c B d w.heap.size q' A' c' B' d' :=
  ⟨Below.al_ (Below.al_ h _) _, Box3.new _ _ _ _ (by simp), (Box3.new w _ _ _ rfl).al _, R0.al_.al_, R1.al_.al_, R2.al_.al_, R3.al_.al_, by have := h.size; omega, h.size, by omega⟩
theorem land23_xl {W w : World} {q q' : Rat} {A A' : Option Addr} {c c' : Nat} {B B' : Option Addr} {d d' : Nat} {g : Nat} (h : Below W.heap.size W w) (R0 : Rd w w.heap.size A (dig (zmag q.num)).length c (dig (zmag q.num))) (R1 : Rd w w.heap.size B (dig q.den).length d (dig q.den)) (R2 : Rd w w.heap.size A' (dig (zmag q'.num)).length c' (dig (zmag q'.num))) (R3 : Rd w w.heap.size B' (dig q'.den).length d' (dig q'.den)) (X : XBox3 W w g) : Land23 W ((((w.setCell ⟨g, 0, none⟩ (.bool (zneg q.num))).setCell ⟨g, 1, none⟩ (.slice A (dig (zmag q.num)).length c)).setCell ⟨g, 2, none⟩ (.slice B (dig q.den).length d)).alloc (.cells #[.bool (zneg q'.num), .slice A' (dig (zmag q'.num)).length c', .slice B' (dig q'.den).length d'] 27)) g q A c B d w.heap.size q' A' c' B' d' := by
  obtain ⟨c0, c1, c2, _, _, _, _⟩ := X.facts
  exact ⟨Below.al_ ((((h.setCell X.2 _).setCell X.2 _).setCell X.2 _)) _, (Box3.set X.1 _ _ _).al _, Box3.new _ _ _ _ (by simp), (show Rd (((w.setCell ⟨g, 0, none⟩ (.bool (zneg q.num))).setCell ⟨g, 1, none⟩ (.slice A (dig (zmag q.num)).length c)).setCell ⟨g, 2, none⟩ (.slice B (dig q.den).length d)) (((w.setCell ⟨g, 0, none⟩ (.bool (zneg q.num))).setCell ⟨g, 1, none⟩ (.slice A (dig (zmag q.num)).length c)).setCell ⟨g, 2, none⟩ (.slice B (dig q.den).length d)).heap.size _ _ _ _ by simpa using far3 c0 c1 c2 _ _ _ R0).al_, (show Rd (((w.setCell ⟨g, 0, none⟩ (.bool (zneg q.num))).setCell ⟨g, 1, none⟩ (.slice A (dig (zmag q.num)).length c)).setCell ⟨g, 2, none⟩ (.slice B (dig q.den).length d)) (((w.setCell ⟨g, 0, none⟩ (.bool (zneg q.num))).setCell ⟨g, 1, none⟩ (.slice A (dig (zmag q.num)).length c)).setCell ⟨g, 2, none⟩ (.slice B (dig q.den).length d)).heap.size _ _ _ _ by simpa using far3 c0 c1 c2 _ _ _ R1).al_, (show Rd (((w.setCell ⟨g, 0, none⟩ (.bool (zneg q.num))).setCell ⟨g, 1, none⟩ (.slice A (dig (zmag q.num)).length c)).setCell ⟨g, 2, none⟩ (.slice B (dig q.den).length d)) (((w.setCell ⟨g, 0, none⟩ (.bool (zneg q.num))).setCell ⟨g, 1, none⟩ (.slice A (dig (zmag q.num)).length c)).setCell ⟨g, 2, none⟩ (.slice B (dig q.den).length d)).heap.size _ _ _ _ by simpa using far3 c0 c1 c2 _ _ _ R2).al_, (show Rd (((w.setCell ⟨g, 0, none⟩ (.bool (zneg q.num))).setCell ⟨g, 1, none⟩ (.slice A (dig (zmag q.num)).length c)).setCell ⟨g, 2, none⟩ (.slice B (dig q.den).length d)) (((w.setCell ⟨g, 0, none⟩ (.bool (zneg q.num))).setCell ⟨g, 1, none⟩ (.slice A (dig (zmag q.num)).length c)).setCell ⟨g, 2, none⟩ (.slice B (dig q.den).length d)).heap.size _ _ _ _ by simpa using far3 c0 c1 c2 _ _ _ R3).al_, X.2, h.size, by have := X.1.lt_size; omega⟩
theorem land23_lx {W w : World} {q q' : Rat} {A A' : Option Addr} {c c' : Nat} {B B' : Option Addr} {d d' : Nat} {g : Nat} (h : Below W.heap.size W w) (R0 : Rd w w.heap.size A (dig (zmag q.num)).length c (dig (zmag q.num))) (R1 : Rd w w.heap.size B (dig q.den).length d (dig q.den)) (R2 : Rd w w.heap.size A' (dig (zmag q'.num)).length c' (dig (zmag q'.num))) (R3 : Rd w w.heap.size B' (dig q'.den).length d' (dig q'.den)) (X : XBox3 W w g) : Land23 W ((((w.setCell ⟨g, 0, none⟩ (.bool (zneg q'.num))).setCell ⟨g, 1, none⟩ (.slice A' (dig (zmag q'.num)).length c')).setCell ⟨g, 2, none⟩ (.slice B' (dig q'.den).length d')).alloc (.cells #[.bool (zneg q.num), .slice A (dig (zmag q.num)).length c, .slice B (dig q.den).length d] 27)) w.heap.size q A c B d g q' A' c' B' d' := by
  obtain ⟨c0, c1, c2, _, _, _, _⟩ := X.facts
  exact ⟨Below.al_ ((((h.setCell X.2 _).setCell X.2 _).setCell X.2 _)) _, Box3.new _ _ _ _ (by simp), (Box3.set X.1 _ _ _).al _, (show Rd (((w.setCell ⟨g, 0, none⟩ (.bool (zneg q'.num))).setCell ⟨g, 1, none⟩ (.slice A' (dig (zmag q'.num)).length c')).setCell ⟨g, 2, none⟩ (.slice B' (dig q'.den).length d')) (((w.setCell ⟨g, 0, none⟩ (.bool (zneg q'.num))).setCell ⟨g, 1, none⟩ (.slice A' (dig (zmag q'.num)).length c')).setCell ⟨g, 2, none⟩ (.slice B' (dig q'.den).length d')).heap.size _ _ _ _ by simpa using far3 c0 c1 c2 _ _ _ R0).al_, (show Rd (((w.setCell ⟨g, 0, none⟩ (.bool (zneg q'.num))).setCell ⟨g, 1, none⟩ (.slice A' (dig (zmag q'.num)).length c')).setCell ⟨g, 2, none⟩ (.slice B' (dig q'.den).length d')) (((w.setCell ⟨g, 0, none⟩ (.bool (zneg q'.num))).setCell ⟨g, 1, none⟩ (.slice A' (dig (zmag q'.num)).length c')).setCell ⟨g, 2, none⟩ (.slice B' (dig q'.den).length d')).heap.size _ _ _ _ by simpa using far3 c0 c1 c2 _ _ _ R1).al_, (show Rd (((w.setCell ⟨g, 0, none⟩ (.bool (zneg q'.num))).setCell ⟨g, 1, none⟩ (.slice A' (dig (zmag q'.num)).length c')).setCell ⟨g, 2, none⟩ (.slice B' (dig q'.den).length d')) (((w.setCell ⟨g, 0, none⟩ (.bool (zneg q'.num))).setCell ⟨g, 1, none⟩ (.slice A' (dig (zmag q'.num)).length c')).setCell ⟨g, 2, none⟩ (.slice B' (dig q'.den).length d')).heap.size _ _ _ _ by simpa using far3 c0 c1 c2 _ _ _ R2).al_, (show Rd (((w.setCell ⟨g, 0, none⟩ (.bool (zneg q'.num))).setCell ⟨g, 1, none⟩ (.slice A' (dig (zmag q'.num)).length c')).setCell ⟨g, 2, none⟩ (.slice B' (dig q'.den).length d')) (((w.setCell ⟨g, 0, none⟩ (.bool (zneg q'.num))).setCell ⟨g, 1, none⟩ (.slice A' (dig (zmag q'.num)).length c')).setCell ⟨g, 2, none⟩ (.slice B' (dig q'.den).length d')).heap.size _ _ _ _ by simpa using far3 c0 c1 c2 _ _ _ R3).al_, h.size, X.2, by have := X.1.lt_size; omega⟩
theorem land23_set {W w : World} {q q' : Rat} {A A' : Option Addr} {c c' : Nat} {B B' : Option Addr} {d d' : Nat} {g k : Nat} (h : Below W.heap.size W w) (R0 : Rd w w.heap.size A (dig (zmag q.num)).length c (dig (zmag q.num))) (R1 : Rd w w.heap.size B (dig q.den).length d (dig q.den)) (R2 : Rd w w.heap.size A' (dig (zmag q'.num)).length c' (dig (zmag q'.num))) (R3 : Rd w w.heap.size B' (dig q'.den).length d' (dig q'.den)) (X : XBox3 W w g) (Y : XBox3 W w k) (hne : g ≠ k) : Land23 W ((((((w.setCell ⟨g, 0, none⟩ (.bool (zneg q.num))).setCell ⟨g, 1, none⟩ (.slice A (dig (zmag q.num)).length c)).setCell ⟨g, 2, none⟩ (.slice B (dig q.den).length d)).setCell ⟨k, 0, none⟩ (.bool (zneg q'.num))).setCell ⟨k, 1, none⟩ (.slice A' (dig (zmag q'.num)).length c')).setCell ⟨k, 2, none⟩ (.slice B' (dig q'.den).length d')) g q A c B d k q' A' c' B' d' := by
  obtain ⟨c0, c1, c2, _, _, _, _⟩ := X.facts
  have hY : Box3 (((w.setCell ⟨g, 0, none⟩ (.bool (zneg q.num))).setCell ⟨g, 1, none⟩ (.slice A (dig (zmag q.num)).length c)).setCell ⟨g, 2, none⟩ (.slice B (dig q.den).length d)) k (.bool false) (.slice none 0 0) (.slice none 0 0) := (Box3.other (Box3.other (Box3.other Y.1 (Ne.symm hne) _) (Ne.symm hne) _) (Ne.symm hne) _)
  obtain ⟨y0, y1, y2, _, _, _, _⟩ := box3_kept_at hY hY.lt_size (Nat.le_refl _) (Below.refl _ _)
  exact ⟨((((((h.setCell X.2 _).setCell X.2 _).setCell X.2 _).setCell Y.2 _).setCell Y.2 _).setCell Y.2 _), (Box3.other (Box3.other (Box3.other (Box3.set X.1 _ _ _) hne _) hne _) hne _), Box3.set hY _ _ _, (show Rd ((((((w.setCell ⟨g, 0, none⟩ (.bool (zneg q.num))).setCell ⟨g, 1, none⟩ (.slice A (dig (zmag q.num)).length c)).setCell ⟨g, 2, none⟩ (.slice B (dig q.den).length d)).setCell ⟨k, 0, none⟩ (.bool (zneg q'.num))).setCell ⟨k, 1, none⟩ (.slice A' (dig (zmag q'.num)).length c')).setCell ⟨k, 2, none⟩ (.slice B' (dig q'.den).length d')) ((((((w.setCell ⟨g, 0, none⟩ (.bool (zneg q.num))).setCell ⟨g, 1, none⟩ (.slice A (dig (zmag q.num)).length c)).setCell ⟨g, 2, none⟩ (.slice B (dig q.den).length d)).setCell ⟨k, 0, none⟩ (.bool (zneg q'.num))).setCell ⟨k, 1, none⟩ (.slice A' (dig (zmag q'.num)).length c')).setCell ⟨k, 2, none⟩ (.slice B' (dig q'.den).length d')).heap.size _ _ _ _ by simpa using far3 y0 y1 y2 _ _ _ (far3 c0 c1 c2 _ _ _ R0)), (show Rd ((((((w.setCell ⟨g, 0, none⟩ (.bool (zneg q.num))).setCell ⟨g, 1, none⟩ (.slice A (dig (zmag q.num)).length c)).setCell ⟨g, 2, none⟩ (.slice B (dig q.den).length d)).setCell ⟨k, 0, none⟩ (.bool (zneg q'.num))).setCell ⟨k, 1, none⟩ (.slice A' (dig (zmag q'.num)).length c')).setCell ⟨k, 2, none⟩ (.slice B' (dig q'.den).length d')) ((((((w.setCell ⟨g, 0, none⟩ (.bool (zneg q.num))).setCell ⟨g, 1, none⟩ (.slice A (dig (zmag q.num)).length c)).setCell ⟨g, 2, none⟩ (.slice B (dig q.den).length d)).setCell ⟨k, 0, none⟩ (.bool (zneg q'.num))).setCell ⟨k, 1, none⟩ (.slice A' (dig (zmag q'.num)).length c')).setCell ⟨k, 2, none⟩ (.slice B' (dig q'.den).length d')).heap.size _ _ _ _ by simpa using far3 y0 y1 y2 _ _ _ (far3 c0 c1 c2 _ _ _ R1)), (show Rd ((((((w.setCell ⟨g, 0, none⟩ (.bool (zneg q.num))).setCell ⟨g, 1, none⟩ (.slice A (dig (zmag q.num)).length c)).setCell ⟨g, 2, none⟩ (.slice B (dig q.den).length d)).setCell ⟨k, 0, none⟩ (.bool (zneg q'.num))).setCell ⟨k, 1, none⟩ (.slice A' (dig (zmag q'.num)).length c')).setCell ⟨k, 2, none⟩ (.slice B' (dig q'.den).length d')) ((((((w.setCell ⟨g, 0, none⟩ (.bool (zneg q.num))).setCell ⟨g, 1, none⟩ (.slice A (dig (zmag q.num)).length c)).setCell ⟨g, 2, none⟩ (.slice B (dig q.den).length d)).setCell ⟨k, 0, none⟩ (.bool (zneg q'.num))).setCell ⟨k, 1, none⟩ (.slice A' (dig (zmag q'.num)).length c')).setCell ⟨k, 2, none⟩ (.slice B' (dig q'.den).length d')).heap.size _ _ _ _ by simpa using far3 y0 y1 y2 _ _ _ (far3 c0 c1 c2 _ _ _ R2)), (show Rd ((((((w.setCell ⟨g, 0, none⟩ (.bool (zneg q.num))).setCell ⟨g, 1, none⟩ (.slice A (dig (zmag q.num)).length c)).setCell ⟨g, 2, none⟩ (.slice B (dig q.den).length d)).setCell ⟨k, 0, none⟩ (.bool (zneg q'.num))).setCell ⟨k, 1, none⟩ (.slice A' (dig (zmag q'.num)).length c')).setCell ⟨k, 2, none⟩ (.slice B' (dig q'.den).length d')) ((((((w.setCell ⟨g, 0, none⟩ (.bool (zneg q.num))).setCell ⟨g, 1, none⟩ (.slice A (dig (zmag q.num)).length c)).setCell ⟨g, 2, none⟩ (.slice B (dig q.den).length d)).setCell ⟨k, 0, none⟩ (.bool (zneg q'.num))).setCell ⟨k, 1, none⟩ (.slice A' (dig (zmag q'.num)).length c')).setCell ⟨k, 2, none⟩ (.slice B' (dig q'.den).length d')).heap.size _ _ _ _ by simpa using far3 y0 y1 y2 _ _ _ (far3 c0 c1 c2 _ _ _ R3)), X.2, Y.2, hne⟩
end
end Go.Proofs.Ytdihgmbldnekhaa
