/-
  Lengths of quotients; large.
-/
import Derived.Test.YtieopcchchebgaaSame3
import Derived.Test.YtieopcchchebgaaRRat5
import Derived.Test.YtieopcchchebgaaRat4
namespace Go.Proofs.Ytieopcchchebgaa
open Go.RowKit


/-- lengths of quotients -/
theorem sz_mk {a : Int} {d i : Nat} (ha : zmag a < pw i) (hd : d < pw i) (hi : 1 ≤ i) : (dig (zmag (mkRat a d).num)).length ≤ i ∧ (dig (mkRat a d).den).length ≤ i := by
  by_cases h0 : d = 0
  · subst h0
    rw [Rat.mkRat_zero, q0num, q0den, show zmag 0 = 0 from rfl, dig_zero, dig_one]
    exact ⟨Nat.zero_le _, hi⟩
  · rw [← iv_eta a]
    have h1 := qv_num (zneg a) (zmag a) h0
    have h2 := qv_den (zneg a) (zmag a) h0
    unfold qv at h1 h2
    rw [h1, h2, zmag_iv]
    exact ⟨dl (Nat.lt_of_le_of_lt (Nat.div_le_self _ _) ha), dl (Nat.lt_of_le_of_lt (Nat.div_le_self _ _) hd)⟩
theorem sz_lt {q : Rat} {i : Nat} (h : (dig (zmag q.num)).length ≤ i ∧ (dig q.den).length ≤ i) : zmag q.num < pw i ∧ q.den < pw i ∧ 1 ≤ i :=
  ⟨(dig_len_le _ _).1 h.1, (dig_len_le _ _).1 h.2, by have := mt dig_len_zero.1 q.den_nz; omega⟩
theorem sz_qv {s : Bool} {m d i : Nat} (hm : m < pw i) (hd : d < pw i) : (dig (zmag (qv s m d).num)).length ≤ i + 1 ∧ (dig (qv s m d).den).length ≤ i + 1 :=
  sz_mk (zl_iv (lt_up hm)) (lt_up hd) (by omega)
theorem sz_rd {w : World} {Bd n c m d : Nat} {A B : Option Addr} {xs ys : List Nat} {s : Bool} {q : Rat} (h : Rd w Bd A n c xs) (h' : Rd w Bd B m d ys) (hq : qv s (val xs) (val ys) = q) {i : Nat} (h1 : n ≤ i) (h2 : m ≤ i) : (dig (zmag q.num)).length ≤ i + 1 ∧ (dig q.den).length ≤ i + 1 := by
  subst hq
  exact sz_qv (pw_le h1 h.lt) (pw_le h2 h'.lt)
theorem sz_add {p q r : Rat} {i j : Nat} (hr : p + q = r) (hp : (dig (zmag p.num)).length ≤ i ∧ (dig p.den).length ≤ i) (hq : (dig (zmag q.num)).length ≤ j ∧ (dig q.den).length ≤ j) : (dig (zmag r.num)).length ≤ i + j + 1 ∧ (dig r.den).length ≤ i + j + 1 := by
  subst hr
  obtain ⟨p1, p2, p3⟩ := sz_lt hp
  obtain ⟨q1, q2, q3⟩ := sz_lt hq
  have h := mk_add (a := p.num) (b := q.num) p.den_nz q.den_nz
  rw [Rat.mkRat_self, Rat.mkRat_self] at h
  rw [h]
  refine sz_mk ?_ (lt_up (lt_mul p2 q2)) (by omega)
  exact pw_le (by omega) (zl_add (zl_mul p1 (zl_nat q2)) (zl_mul q1 (zl_nat p2)))
theorem sz_neg {p r : Rat} {i : Nat} (hr : -p = r) (hp : (dig (zmag p.num)).length ≤ i ∧ (dig p.den).length ≤ i) : (dig (zmag r.num)).length ≤ i ∧ (dig r.den).length ≤ i := by
  subst hr
  rw [Rat.neg_num, Rat.neg_den, show zmag (-p.num) = zmag p.num from Int.natAbs_neg _]
  exact hp
theorem sz_sub {p q r : Rat} {i j : Nat} (hr : p - q = r) (hp : (dig (zmag p.num)).length ≤ i ∧ (dig p.den).length ≤ i) (hq : (dig (zmag q.num)).length ≤ j ∧ (dig q.den).length ≤ j) : (dig (zmag r.num)).length ≤ i + j + 1 ∧ (dig r.den).length ≤ i + j + 1 :=
  sz_add (by rw [← Rat.sub_eq_add_neg]; exact hr) hp (sz_neg rfl hq)
theorem sz_mul {p q r : Rat} {i j : Nat} (hr : p * q = r) (hp : (dig (zmag p.num)).length ≤ i ∧ (dig p.den).length ≤ i) (hq : (dig (zmag q.num)).length ≤ j ∧ (dig q.den).length ≤ j) : (dig (zmag r.num)).length ≤ i + j ∧ (dig r.den).length ≤ i + j := by
  subst hr
  obtain ⟨p1, p2, p3⟩ := sz_lt hp
  obtain ⟨q1, q2, q3⟩ := sz_lt hq
  have h := mk_mul p.num q.num p.den q.den
  rw [Rat.mkRat_self, Rat.mkRat_self] at h
  rw [h]
  exact sz_mk (zl_mul p1 q1) (lt_mul p2 q2) (by omega)
theorem sz_divInt {a b : Int} {r : Rat} {i : Nat} (hr : Rat.divInt a b = r) (ha : zmag a < pw i) (hb : zmag b < pw i) (hi : 1 ≤ i) : (dig (zmag r.num)).length ≤ i ∧ (dig r.den).length ≤ i := by
  subst hr
  rw [← iv_eta a, ← iv_eta b, ← qv_div]
  unfold qv
  exact sz_mk (zl_iv ha) hb hi
theorem sz_div {p q r : Rat} {i j : Nat} (hr : p / q = r) (hp : (dig (zmag p.num)).length ≤ i ∧ (dig p.den).length ≤ i) (hq : (dig (zmag q.num)).length ≤ j ∧ (dig q.den).length ≤ j) : (dig (zmag r.num)).length ≤ i + j ∧ (dig r.den).length ≤ i + j := by
  obtain ⟨p1, p2, p3⟩ := sz_lt hp
  obtain ⟨q1, q2, q3⟩ := sz_lt hq
  have h := mk_div (a := p.num) (b := q.num) p.den_nz q.den_nz
  rw [Rat.mkRat_self, Rat.mkRat_self] at h
  refine sz_divInt (by rw [← h]; exact hr) (zl_mul p1 (zl_nat q2)) ?_ (by omega)
  rw [Nat.add_comm]
  exact zl_mul q1 (zl_nat p2)
theorem large_yes {w : World} {A_a A_ad : Option Addr} {n_a c_a n_ad c_ad : Nat} {s_a : Bool} (h : ¬ (n_a ≤ 40 ∧ n_ad ≤ 40)) :
    Calls Try.prog 17 #[.agg #[.bool s_a, .slice A_a n_a c_a, .slice A_ad n_ad c_ad]] w (RetB w (.bool true)) := by
  by_cases h1 : n_a ≤ 40
  · exact large_den h1 (fun h2 => h ⟨h1, h2⟩)
  · exact large_num h1
/-- the box with the ratio in it -/
def LandedR (W w' : World) (g : Nat) (q : Rat) (A : Option Addr) (c : Nat) (B : Option Addr) (d : Nat) : Prop :=
  Below W.heap.size W w' ∧ Box3 w' g (.bool (zneg q.num)) (.slice A (dig (zmag q.num)).length c) (.slice B (dig q.den).length d) ∧ Rd w' w'.heap.size A (dig (zmag q.num)).length c (dig (zmag q.num)) ∧ Rd w' w'.heap.size B (dig q.den).length d (dig q.den) ∧ W.heap.size ≤ g
theorem LandedR.below {W w' : World} {g : Nat} {q : Rat} {A B : Option Addr} {c d : Nat} (h : LandedR W w' g q A c B d) : Below W.heap.size W w' := h.1
theorem landedR_new {W w : World} {q : Rat} {A B : Option Addr} {c d : Nat} (h : Below W.heap.size W w) (R : Rd w w.heap.size A (dig (zmag q.num)).length c (dig (zmag q.num))) (R' : Rd w w.heap.size B (dig q.den).length d (dig q.den)) :
    LandedR W (w.alloc (.cells #[.bool (zneg q.num), .slice A (dig (zmag q.num)).length c, .slice B (dig q.den).length d] 27)) w.heap.size q A c B d := ⟨Below.al_ h _, Box3.new w _ _ _ rfl, R.al_, R'.al_, h.size⟩
theorem landedR_set {W w : World} {g : Nat} {q : Rat} {A B : Option Addr} {c d : Nat} (h : Below W.heap.size W w) (R : Rd w w.heap.size A (dig (zmag q.num)).length c (dig (zmag q.num))) (R' : Rd w w.heap.size B (dig q.den).length d (dig q.den)) (X : XBox3 W w g) :
    LandedR W (((w.setCell ⟨g, 0, none⟩ (.bool (zneg q.num))).setCell ⟨g, 1, none⟩ (.slice A (dig (zmag q.num)).length c)).setCell ⟨g, 2, none⟩ (.slice B (dig q.den).length d)) g q A c B d := by
  obtain ⟨c0, c1, c2, _, _, _, _⟩ := X.facts
  exact ⟨((h.setCell X.2 _).setCell X.2 _).setCell X.2 _, Box3.set X.1 _ _ _, by simpa using far3 c0 c1 c2 _ _ _ R, by simpa using far3 c0 c1 c2 _ _ _ R', X.2⟩
theorem landedR_late {W w : World} {q : Rat} {A B : Option Addr} {c d : Nat} (h : Below W.heap.size W w) (R : Rd w w.heap.size A (dig (zmag q.num)).length c (dig (zmag q.num))) (R' : Rd w w.heap.size B (dig q.den).length d (dig q.den)) :
    LandedR W ((((w.alloc (.cells #[.bool false, .slice none 0 0, .slice none 0 0] 27)).setCell ⟨w.heap.size, 0, none⟩ (.bool (zneg q.num))).setCell ⟨w.heap.size, 1, none⟩ (.slice A (dig (zmag q.num)).length c)).setCell ⟨w.heap.size, 2, none⟩ (.slice B (dig q.den).length d)) w.heap.size q A c B d :=
  landedR_set (Below.al_ h _) R.al_ R'.al_ ⟨Box3.new w _ _ _ rfl, h.size⟩
/-- orders -/
theorem sgn_le {x y : Rat} (h : x ≤ y) : sgn (x - y).num ≤ 0 := by
  have h1 := Rat.num_nonneg.2 ((Rat.le_iff_sub_nonneg x y).1 h)
  have h2 : (x - y).num = -(y - x).num := by rw [← Rat.neg_num, Rat.neg_sub]
  rw [h2]
  unfold sgn
  rcases Int.lt_or_eq_of_le h1 with h3 | h3
  · rw [Int.sign_neg, Int.sign_eq_one_of_pos h3]; omega
  · rw [← h3]; decide
theorem sgn_lt {x y : Rat} (h : x < y) : sgn (x - y).num < 0 := by
  have h1 := sgn_le (Rat.le_of_lt h)
  have h2 : sgn (x - y).num ≠ 0 := fun e => by
    have e2 := Rat.num_eq_zero.1 ((sgn_zero_iff _).1 e)
    have e3 : x = y := by
      have := Rat.sub_add_cancel (a := x) (b := y)
      rw [e2, Rat.zero_add] at this
      exact this.symm
    exact Rat.ne_of_lt h e3
  omega
theorem divInt_one (z : Int) : Rat.divInt z 1 = (z : Rat) := by
  have h := Rat.divInt_ofNat z 1
  rw [show ((1 : Nat) : Int) = 1 from rfl] at h
  rw [h]
  have h2 := Rat.mkRat_self (z : Rat)
  rwa [Rat.num_intCast, Rat.den_intCast] at h2
theorem rmul3w_any {w : World} {Bd : Nat} {A_a : Option Addr} {n_a c_a : Nat} {x_a : List Nat} {s_a : Bool} {A_ad : Option Addr} {n_ad c_ad : Nat} {x_ad : List Nat} {A_b : Option Addr} {n_b c_b : Nat} {x_b : List Nat} {s_b : Bool} {A_bd : Option Addr} {n_bd c_bd : Nat} {x_bd : List Nat} (h_a : Rd w Bd A_a n_a c_a x_a) (g_a : n_a ≤ 1000000000) (h_ad : Rd w Bd A_ad n_ad c_ad x_ad) (g_ad : n_ad ≤ 1000000000) (h_b : Rd w Bd A_b n_b c_b x_b) (g_b : n_b ≤ 1000000000) (h_bd : Rd w Bd A_bd n_bd c_bd x_bd) (g_bd : n_bd ≤ 1000000000) (hB : Bd ≤ w.heap.size) {q : Rat} (hq : qv s_a (val x_a) (val x_ad) * qv s_b (val x_b) (val x_bd) = q) :
    Calls Try.prog 38 #[.agg #[.bool s_a, .slice A_a n_a c_a, .slice A_ad n_ad c_ad], .agg #[.bool s_b, .slice A_b n_b c_b, .slice A_bd n_bd c_bd]] w (RetRat w q) :=
  rmul3_any h_a (by omega) h_ad (by omega) h_b (by omega) h_bd (by omega) hB hq


end Go.Proofs.Ytieopcchchebgaa
