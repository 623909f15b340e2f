/-
  Span, SpanA, RatL, Dist3, Nat6.
-/
import Derived.Test.YtdihgmbldnekhaaLaw3s
import Derived.Test.YtdihgmbldnekhaaTextB
import Derived.Laws.AppendOwn
import Derived.Test.YtdihgmbldnekhaaDistM
import Derived.Test.YtdihgmbldnekhaaNatLong
import Derived.Test.YtdihgmbldnekhaaRefQuo
import Derived.Test.YtdihgmbldnekhaaRefSum
import Derived.Test.YtdihgmbldnekhaaNatSum
import Derived.Test.YtdihgmbldnekhaaNatBits
import Derived.Test.YtdihgmbldnekhaaIntA
namespace Go.Proofs.Ytdihgmbldnekhaa
section
open Go.RowKit

theorem sz_absq {p r : Rat} {i : Nat} (hr : qabs p = r) (hp : (dig (zmag p.num)).length ≤ i ∧ (dig p.den).length ≤ i) : (dig (zmag r.num)).length ≤ i ∧ (dig r.den).length ≤ i := by
  unfold qabs at hr
  split at hr
  · exact sz_neg hr hp
  · subst hr; exact hp
theorem lt64 {x : Int} (h0 : -9223372036854775808 ≤ x) (h1 : x ≤ 9223372036854775807) : zmag x < pw 2 := by
  have : pw 2 = 18446744073709551616 := by decide
  unfold zmag; omega
theorem far6 {w2 : World} {g : Nat} {v0 v1 v2 v3 v4 v5 : Value} (hc0 : w2.cell? ⟨g, 0, none⟩ = some v0) (hv0 : ∀ x, v0 ≠ .int .u32 x) (hc1 : w2.cell? ⟨g, 1, none⟩ = some v1) (hv1 : ∀ x, v1 ≠ .int .u32 x) (hc2 : w2.cell? ⟨g, 2, none⟩ = some v2) (hv2 : ∀ x, v2 ≠ .int .u32 x) (hc3 : w2.cell? ⟨g, 3, none⟩ = some v3) (hv3 : ∀ x, v3 ≠ .int .u32 x) (hc4 : w2.cell? ⟨g, 4, none⟩ = some v4) (hv4 : ∀ x, v4 ≠ .int .u32 x) (hc5 : w2.cell? ⟨g, 5, none⟩ = some v5) (hv5 : ∀ x, v5 ≠ .int .u32 x) (u0 u1 u2 u3 u4 u5 : Value) {A : Option Addr} {n k : Nat} {xs : List Nat} {Bd : Nat} (R : Rd w2 Bd A n k xs) : Rd ((((((w2.setCell ⟨g, 0, none⟩ u0).setCell ⟨g, 1, none⟩ u1).setCell ⟨g, 2, none⟩ u2).setCell ⟨g, 3, none⟩ u3).setCell ⟨g, 4, none⟩ u4).setCell ⟨g, 5, none⟩ u5) Bd A n k xs := by
  have e1 : (w2.setCell ⟨g, 0, none⟩ u0).cell? ⟨g, 1, none⟩ = some v1 := ((World.cell?_setCell_other _ _ _ _ (by simp)).trans hc1)
  have e2 : ((w2.setCell ⟨g, 0, none⟩ u0).setCell ⟨g, 1, none⟩ u1).cell? ⟨g, 2, none⟩ = some v2 := ((World.cell?_setCell_other _ _ _ _ (by simp)).trans ((World.cell?_setCell_other _ _ _ _ (by simp)).trans hc2))
  have e3 : (((w2.setCell ⟨g, 0, none⟩ u0).setCell ⟨g, 1, none⟩ u1).setCell ⟨g, 2, none⟩ u2).cell? ⟨g, 3, none⟩ = some v3 := ((World.cell?_setCell_other _ _ _ _ (by simp)).trans ((World.cell?_setCell_other _ _ _ _ (by simp)).trans ((World.cell?_setCell_other _ _ _ _ (by simp)).trans hc3)))
  have e4 : ((((w2.setCell ⟨g, 0, none⟩ u0).setCell ⟨g, 1, none⟩ u1).setCell ⟨g, 2, none⟩ u2).setCell ⟨g, 3, none⟩ u3).cell? ⟨g, 4, none⟩ = some v4 := ((World.cell?_setCell_other _ _ _ _ (by simp)).trans ((World.cell?_setCell_other _ _ _ _ (by simp)).trans ((World.cell?_setCell_other _ _ _ _ (by simp)).trans ((World.cell?_setCell_other _ _ _ _ (by simp)).trans hc4))))
  have e5 : (((((w2.setCell ⟨g, 0, none⟩ u0).setCell ⟨g, 1, none⟩ u1).setCell ⟨g, 2, none⟩ u2).setCell ⟨g, 3, none⟩ u3).setCell ⟨g, 4, none⟩ u4).cell? ⟨g, 5, none⟩ = some v5 := ((World.cell?_setCell_other _ _ _ _ (by simp)).trans ((World.cell?_setCell_other _ _ _ _ (by simp)).trans ((World.cell?_setCell_other _ _ _ _ (by simp)).trans ((World.cell?_setCell_other _ _ _ _ (by simp)).trans ((World.cell?_setCell_other _ _ _ _ (by simp)).trans hc5)))))
  exact (((((R.far hc0 hv0).far e1 hv1).far e2 hv2).far e3 hv3).far e4 hv4).far e5 hv5

/-- a ratio's cells -/
structure Rc where
  s : Bool
  A : Option Addr
  n : Nat
  c : Nat
  B : Option Addr
  m : Nat
  d : Nat
/-- they read as the number q, in any form, of at most L limbs each -/
def Rq (w : World) (Bd L : Nat) (x : Rc) (q : Rat) : Prop :=
  ∃ xs ys, Rd w Bd x.A x.n x.c xs ∧ Rd w Bd x.B x.m x.d ys ∧ x.n ≤ L ∧ x.m ≤ L ∧ qv x.s (val xs) (val ys) = q
/-- .. in normal form -/
def Nq (w : World) (Bd L : Nat) (x : Rc) (q : Rat) : Prop :=
  x.s = zneg q.num ∧ Rd w Bd x.A x.n x.c (dig (zmag q.num)) ∧ Rd w Bd x.B x.m x.d (dig q.den) ∧ x.n ≤ L ∧ x.m ≤ L
theorem Nq.rq {w : World} {Bd L : Nat} {x : Rc} {q : Rat} (h : Nq w Bd L x q) : Rq w Bd L x q :=
  ⟨_, _, h.2.1, h.2.2.1, h.2.2.2.1, h.2.2.2.2, by rw [h.1]; exact qv_eta q⟩
theorem Rq.then_ {w w' : World} {L : Nat} {x : Rc} {q : Rat} (h : Rq w w.heap.size L x q) (hb : Below w.heap.size w w') : Rq w' w'.heap.size L x q := by
  obtain ⟨xs, ys, h1, h2, h3⟩ := h; exact ⟨xs, ys, h1.then_ hb, h2.then_ hb, h3⟩
theorem Nq.then_ {w w' : World} {L : Nat} {x : Rc} {q : Rat} (h : Nq w w.heap.size L x q) (hb : Below w.heap.size w w') : Nq w' w'.heap.size L x q :=
  ⟨h.1, h.2.1.then_ hb, h.2.2.1.then_ hb, h.2.2.2⟩
theorem Rq.upto {w w' : World} {Bd L : Nat} {x : Rc} {q : Rat} (h : Rq w Bd L x q) (hb : Below w.heap.size w w') (hB : Bd ≤ w.heap.size) : Rq w' w'.heap.size L x q := by
  obtain ⟨xs, ys, h1, h2, h3⟩ := h; exact ⟨xs, ys, h1.upto hb hB, h2.upto hb hB, h3⟩
theorem Nq.upto {w w' : World} {Bd L : Nat} {x : Rc} {q : Rat} (h : Nq w Bd L x q) (hb : Below w.heap.size w w') (hB : Bd ≤ w.heap.size) : Nq w' w'.heap.size L x q :=
  ⟨h.1, h.2.1.upto hb hB, h.2.2.1.upto hb hB, h.2.2.2⟩
theorem Rq.al_ {w : World} {L : Nat} {x : Rc} {q : Rat} (h : Rq w w.heap.size L x q) (o : Obj) : Rq (w.alloc o) (w.alloc o).heap.size L x q := h.then_ (Below.al_ (Below.refl _ _) o)
theorem Nq.al_ {w : World} {L : Nat} {x : Rc} {q : Rat} (h : Nq w w.heap.size L x q) (o : Obj) : Nq (w.alloc o) (w.alloc o).heap.size L x q := h.then_ (Below.al_ (Below.refl _ _) o)
theorem Rq.le {w : World} {Bd L M : Nat} {x : Rc} {q : Rat} (h : Rq w Bd L x q) (hl : L ≤ M) : Rq w Bd M x q := by
  obtain ⟨xs, ys, h1, h2, h3, h4, h5⟩ := h; exact ⟨xs, ys, h1, h2, Nat.le_trans h3 hl, Nat.le_trans h4 hl, h5⟩
theorem Nq.le {w : World} {Bd L M : Nat} {x : Rc} {q : Rat} (h : Nq w Bd L x q) (hl : L ≤ M) : Nq w Bd M x q :=
  ⟨h.1, h.2.1, h.2.2.1, Nat.le_trans h.2.2.2.1 hl, Nat.le_trans h.2.2.2.2 hl⟩
theorem Rq.zero (w : World) (Bd L : Nat) : Rq w Bd L ⟨false, none, 0, 0, none, 0, 0⟩ 0 :=
  ⟨[], [], Rd.empty _ _ _ (by simp), Rd.empty _ _ _ (by simp), Nat.zero_le _, Nat.zero_le _, qv_zero _ _⟩
theorem nob {b : Bool} : ∀ x, Value.bool b ≠ .int .u32 x := fun x h => by cases h
theorem nos {A : Option Addr} {n c : Nat} : ∀ x, Value.slice A n c ≠ .int .u32 x := fun x h => by cases h
theorem Rq.set3 {w : World} {g L : Nat} {y : Rc} {x : Rc} {q : Rat} (h : Rq w w.heap.size L x q) (hc0 : w.cell? ⟨g, 0, none⟩ = some (.bool y.s)) (hc1 : w.cell? ⟨g, 1, none⟩ = some (.slice y.A y.n y.c)) (hc2 : w.cell? ⟨g, 2, none⟩ = some (.slice y.B y.m y.d)) (u0 u1 u2 : Value) : Rq (((w.setCell ⟨g, 0, none⟩ (u0)).setCell ⟨g, 1, none⟩ (u1)).setCell ⟨g, 2, none⟩ (u2)) (((w.setCell ⟨g, 0, none⟩ (u0)).setCell ⟨g, 1, none⟩ (u1)).setCell ⟨g, 2, none⟩ (u2)).heap.size L x q := by
  obtain ⟨xs, ys, h1, h2, h3⟩ := h; exact ⟨xs, ys, by simpa using far3 hc0 hc1 hc2 _ _ _ h1, by simpa using far3 hc0 hc1 hc2 _ _ _ h2, h3⟩
theorem Rq.set6 {w : World} {g L : Nat} {y z : Rc} {x : Rc} {q : Rat} (h : Rq w w.heap.size L x q) (hc0 : w.cell? ⟨g, 0, none⟩ = some (.bool y.s)) (hc1 : w.cell? ⟨g, 1, none⟩ = some (.slice y.A y.n y.c)) (hc2 : w.cell? ⟨g, 2, none⟩ = some (.slice y.B y.m y.d)) (hc3 : w.cell? ⟨g, 3, none⟩ = some (.bool z.s)) (hc4 : w.cell? ⟨g, 4, none⟩ = some (.slice z.A z.n z.c)) (hc5 : w.cell? ⟨g, 5, none⟩ = some (.slice z.B z.m z.d)) (u0 u1 u2 u3 u4 u5 : Value) : Rq ((((((w.setCell ⟨g, 0, none⟩ (u0)).setCell ⟨g, 1, none⟩ (u1)).setCell ⟨g, 2, none⟩ (u2)).setCell ⟨g, 3, none⟩ (u3)).setCell ⟨g, 4, none⟩ (u4)).setCell ⟨g, 5, none⟩ (u5)) ((((((w.setCell ⟨g, 0, none⟩ (u0)).setCell ⟨g, 1, none⟩ (u1)).setCell ⟨g, 2, none⟩ (u2)).setCell ⟨g, 3, none⟩ (u3)).setCell ⟨g, 4, none⟩ (u4)).setCell ⟨g, 5, none⟩ (u5)).heap.size L x q := by
  obtain ⟨xs, ys, h1, h2, h3⟩ := h; exact ⟨xs, ys, by simpa using far6 hc0 nob hc1 nos hc2 nos hc3 nob hc4 nos hc5 nos _ _ _ _ _ _ h1, by simpa using far6 hc0 nob hc1 nos hc2 nos hc3 nob hc4 nos hc5 nos _ _ _ _ _ _ h2, h3⟩
theorem Nq.set3 {w : World} {g L : Nat} {y : Rc} {x : Rc} {q : Rat} (h : Nq w w.heap.size L x q) (hc0 : w.cell? ⟨g, 0, none⟩ = some (.bool y.s)) (hc1 : w.cell? ⟨g, 1, none⟩ = some (.slice y.A y.n y.c)) (hc2 : w.cell? ⟨g, 2, none⟩ = some (.slice y.B y.m y.d)) (u0 u1 u2 : Value) : Nq (((w.setCell ⟨g, 0, none⟩ (u0)).setCell ⟨g, 1, none⟩ (u1)).setCell ⟨g, 2, none⟩ (u2)) (((w.setCell ⟨g, 0, none⟩ (u0)).setCell ⟨g, 1, none⟩ (u1)).setCell ⟨g, 2, none⟩ (u2)).heap.size L x q := 
  ⟨h.1, by simpa using far3 hc0 hc1 hc2 _ _ _ h.2.1, by simpa using far3 hc0 hc1 hc2 _ _ _ h.2.2.1, h.2.2.2⟩
theorem Nq.set6 {w : World} {g L : Nat} {y z : Rc} {x : Rc} {q : Rat} (h : Nq w w.heap.size L x q) (hc0 : w.cell? ⟨g, 0, none⟩ = some (.bool y.s)) (hc1 : w.cell? ⟨g, 1, none⟩ = some (.slice y.A y.n y.c)) (hc2 : w.cell? ⟨g, 2, none⟩ = some (.slice y.B y.m y.d)) (hc3 : w.cell? ⟨g, 3, none⟩ = some (.bool z.s)) (hc4 : w.cell? ⟨g, 4, none⟩ = some (.slice z.A z.n z.c)) (hc5 : w.cell? ⟨g, 5, none⟩ = some (.slice z.B z.m z.d)) (u0 u1 u2 u3 u4 u5 : Value) : Nq ((((((w.setCell ⟨g, 0, none⟩ (u0)).setCell ⟨g, 1, none⟩ (u1)).setCell ⟨g, 2, none⟩ (u2)).setCell ⟨g, 3, none⟩ (u3)).setCell ⟨g, 4, none⟩ (u4)).setCell ⟨g, 5, none⟩ (u5)) ((((((w.setCell ⟨g, 0, none⟩ (u0)).setCell ⟨g, 1, none⟩ (u1)).setCell ⟨g, 2, none⟩ (u2)).setCell ⟨g, 3, none⟩ (u3)).setCell ⟨g, 4, none⟩ (u4)).setCell ⟨g, 5, none⟩ (u5)).heap.size L x q := 
  ⟨h.1, by simpa using far6 hc0 nob hc1 nos hc2 nos hc3 nob hc4 nos hc5 nos _ _ _ _ _ _ h.2.1, by simpa using far6 hc0 nob hc1 nos hc2 nos hc3 nob hc4 nos hc5 nos _ _ _ _ _ _ h.2.2.1, h.2.2.2⟩

/-- what calls hand back: a ratio; a span (raw; in normal form) -/
def RetR (w : World) (L : Nat) (q : Rat) (e : Ending) (w' : World) : Prop :=
  ∃ x : Rc, e = .returned (.agg #[.bool x.s, .slice x.A x.n x.c, .slice x.B x.m x.d]) ∧ Rq w' w'.heap.size L x q ∧ Below w.heap.size w w'
def RetN (w : World) (L : Nat) (q : Rat) (e : Ending) (w' : World) : Prop :=
  ∃ x : Rc, e = .returned (.agg #[.bool x.s, .slice x.A x.n x.c, .slice x.B x.m x.d]) ∧ Nq w' w'.heap.size L x q ∧ Below w.heap.size w w'
def RetNB (w : World) (L : Nat) (q : Rat) (ok : Bool) (e : Ending) (w' : World) : Prop :=
  ∃ x : Rc, e = .returned (.tuple #[.agg #[.bool x.s, .slice x.A x.n x.c, .slice x.B x.m x.d], .bool ok]) ∧ Nq w' w'.heap.size L x q ∧ Below w.heap.size w w'
def RetS (w : World) (L : Nat) (p q : Rat) (e : Ending) (w' : World) : Prop :=
  ∃ x y : Rc, e = .returned (.agg #[.bool x.s, .slice x.A x.n x.c, .slice x.B x.m x.d, .bool y.s, .slice y.A y.n y.c, .slice y.B y.m y.d]) ∧ Rq w' w'.heap.size L x p ∧ Rq w' w'.heap.size L y q ∧ Below w.heap.size w w'
def RetSN (w : World) (L : Nat) (p q : Rat) (e : Ending) (w' : World) : Prop :=
  ∃ x y : Rc, e = .returned (.agg #[.bool x.s, .slice x.A x.n x.c, .slice x.B x.m x.d, .bool y.s, .slice y.A y.n y.c, .slice y.B y.m y.d]) ∧ Nq w' w'.heap.size L x p ∧ Nq w' w'.heap.size L y q ∧ Below w.heap.size w w'
def RetSNB (w : World) (L : Nat) (p q : Rat) (e : Ending) (w' : World) : Prop :=
  ∃ x y : Rc, e = .returned (.tuple #[.agg #[.bool x.s, .slice x.A x.n x.c, .slice x.B x.m x.d, .bool y.s, .slice y.A y.n y.c, .slice y.B y.m y.d], .bool true]) ∧ Nq w' w'.heap.size L x p ∧ Nq w' w'.heap.size L y q ∧ Below w.heap.size w w'
def RetSRB (w : World) (e : Ending) (w' : World) : Prop :=
  e = .returned (.tuple #[.agg #[.bool false, .slice none 0 0, .slice none 0 0, .bool false, .slice none 0 0, .slice none 0 0], .bool false]) ∧ Below w.heap.size w w'
theorem RetR.box {w w2 : World} {L g : Nat} {x : Rc} {q : Rat} {b1 : Bool} (hb : Below w.heap.size w w2) (hg : w.heap.size ≤ g) (hc0 : w2.cell? ⟨g, 0, none⟩ = some (.bool b1)) (hc1 : w2.cell? ⟨g, 1, none⟩ = some (.slice none 0 0)) (hc2 : w2.cell? ⟨g, 2, none⟩ = some (.slice none 0 0)) (R : Rq w2 w2.heap.size L x q) :
    RetR w L q (.returned (.agg #[.bool x.s, .slice x.A x.n x.c, .slice x.B x.m x.d])) (((w2.setCell ⟨g, 0, none⟩ (.bool x.s)).setCell ⟨g, 1, none⟩ (.slice x.A x.n x.c)).setCell ⟨g, 2, none⟩ (.slice x.B x.m x.d)) :=
  ⟨x, rfl, R.set3 (y := ⟨b1, none, 0, 0, none, 0, 0⟩) hc0 hc1 hc2 _ _ _, ((hb.setCell hg _).setCell hg _).setCell hg _⟩
theorem RetN.box {w w2 : World} {L g : Nat} {x : Rc} {q : Rat} {b1 : Bool} (hb : Below w.heap.size w w2) (hg : w.heap.size ≤ g) (hc0 : w2.cell? ⟨g, 0, none⟩ = some (.bool b1)) (hc1 : w2.cell? ⟨g, 1, none⟩ = some (.slice none 0 0)) (hc2 : w2.cell? ⟨g, 2, none⟩ = some (.slice none 0 0)) (R : Nq w2 w2.heap.size L x q) :
    RetN w L q (.returned (.agg #[.bool x.s, .slice x.A x.n x.c, .slice x.B x.m x.d])) (((w2.setCell ⟨g, 0, none⟩ (.bool x.s)).setCell ⟨g, 1, none⟩ (.slice x.A x.n x.c)).setCell ⟨g, 2, none⟩ (.slice x.B x.m x.d)) :=
  ⟨x, rfl, R.set3 (y := ⟨b1, none, 0, 0, none, 0, 0⟩) hc0 hc1 hc2 _ _ _, ((hb.setCell hg _).setCell hg _).setCell hg _⟩
theorem RetS.box {w w2 : World} {L g : Nat} {x y : Rc} {p q : Rat} {b1 b2 : Bool} (hb : Below w.heap.size w w2) (hg : w.heap.size ≤ g) (hc0 : w2.cell? ⟨g, 0, none⟩ = some (.bool b1)) (hc1 : w2.cell? ⟨g, 1, none⟩ = some (.slice none 0 0)) (hc2 : w2.cell? ⟨g, 2, none⟩ = some (.slice none 0 0)) (hc3 : w2.cell? ⟨g, 3, none⟩ = some (.bool b2)) (hc4 : w2.cell? ⟨g, 4, none⟩ = some (.slice none 0 0)) (hc5 : w2.cell? ⟨g, 5, none⟩ = some (.slice none 0 0)) (R : Rq w2 w2.heap.size L x p) (S : Rq w2 w2.heap.size L y q) :
    RetS w L p q (.returned (.agg #[.bool x.s, .slice x.A x.n x.c, .slice x.B x.m x.d, .bool y.s, .slice y.A y.n y.c, .slice y.B y.m y.d])) ((((((w2.setCell ⟨g, 0, none⟩ (.bool x.s)).setCell ⟨g, 1, none⟩ (.slice x.A x.n x.c)).setCell ⟨g, 2, none⟩ (.slice x.B x.m x.d)).setCell ⟨g, 3, none⟩ (.bool y.s)).setCell ⟨g, 4, none⟩ (.slice y.A y.n y.c)).setCell ⟨g, 5, none⟩ (.slice y.B y.m y.d)) :=
  ⟨x, y, rfl, R.set6 (y := ⟨b1, none, 0, 0, none, 0, 0⟩) (z := ⟨b2, none, 0, 0, none, 0, 0⟩) hc0 hc1 hc2 hc3 hc4 hc5 _ _ _ _ _ _, S.set6 (y := ⟨b1, none, 0, 0, none, 0, 0⟩) (z := ⟨b2, none, 0, 0, none, 0, 0⟩) hc0 hc1 hc2 hc3 hc4 hc5 _ _ _ _ _ _, (((((hb.setCell hg _).setCell hg _).setCell hg _).setCell hg _).setCell hg _).setCell hg _⟩
theorem RetSN.box {w w2 : World} {L g : Nat} {x y : Rc} {p q : Rat} {b1 b2 : Bool} (hb : Below w.heap.size w w2) (hg : w.heap.size ≤ g) (hc0 : w2.cell? ⟨g, 0, none⟩ = some (.bool b1)) (hc1 : w2.cell? ⟨g, 1, none⟩ = some (.slice none 0 0)) (hc2 : w2.cell? ⟨g, 2, none⟩ = some (.slice none 0 0)) (hc3 : w2.cell? ⟨g, 3, none⟩ = some (.bool b2)) (hc4 : w2.cell? ⟨g, 4, none⟩ = some (.slice none 0 0)) (hc5 : w2.cell? ⟨g, 5, none⟩ = some (.slice none 0 0)) (R : Nq w2 w2.heap.size L x p) (S : Nq w2 w2.heap.size L y q) :
    RetSN w L p q (.returned (.agg #[.bool x.s, .slice x.A x.n x.c, .slice x.B x.m x.d, .bool y.s, .slice y.A y.n y.c, .slice y.B y.m y.d])) ((((((w2.setCell ⟨g, 0, none⟩ (.bool x.s)).setCell ⟨g, 1, none⟩ (.slice x.A x.n x.c)).setCell ⟨g, 2, none⟩ (.slice x.B x.m x.d)).setCell ⟨g, 3, none⟩ (.bool y.s)).setCell ⟨g, 4, none⟩ (.slice y.A y.n y.c)).setCell ⟨g, 5, none⟩ (.slice y.B y.m y.d)) :=
  ⟨x, y, rfl, R.set6 (y := ⟨b1, none, 0, 0, none, 0, 0⟩) (z := ⟨b2, none, 0, 0, none, 0, 0⟩) hc0 hc1 hc2 hc3 hc4 hc5 _ _ _ _ _ _, S.set6 (y := ⟨b1, none, 0, 0, none, 0, 0⟩) (z := ⟨b2, none, 0, 0, none, 0, 0⟩) hc0 hc1 hc2 hc3 hc4 hc5 _ _ _ _ _ _, (((((hb.setCell hg _).setCell hg _).setCell hg _).setCell hg _).setCell hg _).setCell hg _⟩
theorem RetSNB.box {w w2 : World} {L g : Nat} {x y : Rc} {p q : Rat} {b1 b2 : Bool} (hb : Below w.heap.size w w2) (hg : w.heap.size ≤ g) (hc0 : w2.cell? ⟨g, 0, none⟩ = some (.bool b1)) (hc1 : w2.cell? ⟨g, 1, none⟩ = some (.slice none 0 0)) (hc2 : w2.cell? ⟨g, 2, none⟩ = some (.slice none 0 0)) (hc3 : w2.cell? ⟨g, 3, none⟩ = some (.bool b2)) (hc4 : w2.cell? ⟨g, 4, none⟩ = some (.slice none 0 0)) (hc5 : w2.cell? ⟨g, 5, none⟩ = some (.slice none 0 0)) (R : Nq w2 w2.heap.size L x p) (S : Nq w2 w2.heap.size L y q) :
    RetSNB w L p q (.returned (.tuple #[.agg #[.bool x.s, .slice x.A x.n x.c, .slice x.B x.m x.d, .bool y.s, .slice y.A y.n y.c, .slice y.B y.m y.d], .bool true])) ((((((w2.setCell ⟨g, 0, none⟩ (.bool x.s)).setCell ⟨g, 1, none⟩ (.slice x.A x.n x.c)).setCell ⟨g, 2, none⟩ (.slice x.B x.m x.d)).setCell ⟨g, 3, none⟩ (.bool y.s)).setCell ⟨g, 4, none⟩ (.slice y.A y.n y.c)).setCell ⟨g, 5, none⟩ (.slice y.B y.m y.d)) :=
  ⟨x, y, rfl, R.set6 (y := ⟨b1, none, 0, 0, none, 0, 0⟩) (z := ⟨b2, none, 0, 0, none, 0, 0⟩) hc0 hc1 hc2 hc3 hc4 hc5 _ _ _ _ _ _, S.set6 (y := ⟨b1, none, 0, 0, none, 0, 0⟩) (z := ⟨b2, none, 0, 0, none, 0, 0⟩) hc0 hc1 hc2 hc3 hc4 hc5 _ _ _ _ _ _, (((((hb.setCell hg _).setCell hg _).setCell hg _).setCell hg _).setCell hg _).setCell hg _⟩
theorem add_q {w : World} {Bd La Lb : Nat} {a b : Rc} {p q r : Rat} (ha : Rq w Bd La a p) (ga : La ≤ 400000000) (hb : Rq w Bd Lb b q) (gb : Lb ≤ 400000000) (hB : Bd ≤ w.heap.size) (hr : p + q = r) : Calls Try.prog 64 #[.agg #[.bool a.s, .slice a.A a.n a.c, .slice a.B a.m a.d], .agg #[.bool b.s, .slice b.A b.n b.c, .slice b.B b.m b.d]] w (RetN w (La + Lb + 3) r) := by
  obtain ⟨xs, ys, h1, h2, h3, h4, h5⟩ := ha
  obtain ⟨us, vs, k1, k2, k3, k4, k5⟩ := hb
  have z := sz_add hr (sz_rd h1 h2 h5 h3 h4) (sz_rd k1 k2 k5 k3 k4)
  refine (padd_any (q := r) h1 (by omega) h2 (by omega) k1 (by omega) k2 (by omega) hB (by rw [h5, k5]; exact hr)).mono ?_
  rintro e w' ⟨A, c, B, d, rfl, R, R', hb⟩
  exact ⟨⟨zneg r.num, A, _, c, B, _, d⟩, rfl, ⟨rfl, R, R', by show (dig (zmag r.num)).length ≤ _; omega, by show (dig r.den).length ≤ _; omega⟩, hb⟩
theorem sub_q {w : World} {Bd La Lb : Nat} {a b : Rc} {p q r : Rat} (ha : Rq w Bd La a p) (ga : La ≤ 400000000) (hb : Rq w Bd Lb b q) (gb : Lb ≤ 400000000) (hB : Bd ≤ w.heap.size) (hr : p - q = r) : Calls Try.prog 20 #[.agg #[.bool a.s, .slice a.A a.n a.c, .slice a.B a.m a.d], .agg #[.bool b.s, .slice b.A b.n b.c, .slice b.B b.m b.d]] w (RetN w (La + Lb + 3) r) := by
  obtain ⟨xs, ys, h1, h2, h3, h4, h5⟩ := ha
  obtain ⟨us, vs, k1, k2, k3, k4, k5⟩ := hb
  have z := sz_sub hr (sz_rd h1 h2 h5 h3 h4) (sz_rd k1 k2 k5 k3 k4)
  refine (psub_any (q := r) h1 (by omega) h2 (by omega) k1 (by omega) k2 (by omega) hB (by rw [h5, k5]; exact hr)).mono ?_
  rintro e w' ⟨A, c, B, d, rfl, R, R', hb⟩
  exact ⟨⟨zneg r.num, A, _, c, B, _, d⟩, rfl, ⟨rfl, R, R', by show (dig (zmag r.num)).length ≤ _; omega, by show (dig r.den).length ≤ _; omega⟩, hb⟩
theorem mul_q {w : World} {Bd La Lb : Nat} {a b : Rc} {p q r : Rat} (ha : Rq w Bd La a p) (ga : La ≤ 400000000) (hb : Rq w Bd Lb b q) (gb : Lb ≤ 400000000) (hB : Bd ≤ w.heap.size) (hr : p * q = r) : Calls Try.prog 17 #[.agg #[.bool a.s, .slice a.A a.n a.c, .slice a.B a.m a.d], .agg #[.bool b.s, .slice b.A b.n b.c, .slice b.B b.m b.d]] w (RetN w (La + Lb + 2) r) := by
  obtain ⟨xs, ys, h1, h2, h3, h4, h5⟩ := ha
  obtain ⟨us, vs, k1, k2, k3, k4, k5⟩ := hb
  have z := sz_mul hr (sz_rd h1 h2 h5 h3 h4) (sz_rd k1 k2 k5 k3 k4)
  refine (pmul_any (q := r) h1 (by omega) h2 (by omega) k1 (by omega) k2 (by omega) hB (by rw [h5, k5]; exact hr)).mono ?_
  rintro e w' ⟨A, c, B, d, rfl, R, R', hb⟩
  exact ⟨⟨zneg r.num, A, _, c, B, _, d⟩, rfl, ⟨rfl, R, R', by show (dig (zmag r.num)).length ≤ _; omega, by show (dig r.den).length ≤ _; omega⟩, hb⟩
theorem rmul_q {w : World} {Bd La Lb : Nat} {a b : Rc} {p q r : Rat} (ha : Rq w Bd La a p) (ga : La ≤ 400000000) (hb : Rq w Bd Lb b q) (gb : Lb ≤ 400000000) (hB : Bd ≤ w.heap.size) (hr : p * q = r) : Calls Try.prog 69 #[.agg #[.bool a.s, .slice a.A a.n a.c, .slice a.B a.m a.d], .agg #[.bool b.s, .slice b.A b.n b.c, .slice b.B b.m b.d]] w (RetN w (La + Lb + 2) r) := by
  obtain ⟨xs, ys, h1, h2, h3, h4, h5⟩ := ha
  obtain ⟨us, vs, k1, k2, k3, k4, k5⟩ := hb
  have z := sz_mul hr (sz_rd h1 h2 h5 h3 h4) (sz_rd k1 k2 k5 k3 k4)
  refine (rmul3w_any (q := r) h1 (by omega) h2 (by omega) k1 (by omega) k2 (by omega) hB (by rw [h5, k5]; exact hr)).mono ?_
  rintro e w' ⟨A, c, B, d, rfl, R, R', hb⟩
  exact ⟨⟨zneg r.num, A, _, c, B, _, d⟩, rfl, ⟨rfl, R, R', by show (dig (zmag r.num)).length ≤ _; omega, by show (dig r.den).length ≤ _; omega⟩, hb⟩
theorem cmp_q {w : World} {Bd La Lb : Nat} {a b : Rc} {p q : Rat} {k : Int} (ha : Rq w Bd La a p) (ga : La ≤ 400000000) (hb : Rq w Bd Lb b q) (gb : Lb ≤ 400000000) (hB : Bd ≤ w.heap.size) (hr : sgn (p - q).num = k) : Calls Try.prog 19 #[.agg #[.bool a.s, .slice a.A a.n a.c, .slice a.B a.m a.d], .agg #[.bool b.s, .slice b.A b.n b.c, .slice b.B b.m b.d]] w (RetB w (.int .i64 k)) := by
  obtain ⟨xs, ys, h1, h2, h3, h4, h5⟩ := ha
  obtain ⟨us, vs, k1, k2, k3, k4, k5⟩ := hb
  exact pcmp_any h1 (by omega) h2 (by omega) k1 (by omega) k2 (by omega) hB (by rw [h5, k5]; exact hr)
theorem rcmp_q {w : World} {Bd La Lb : Nat} {a b : Rc} {p q : Rat} {k : Int} (ha : Rq w Bd La a p) (ga : La ≤ 400000000) (hb : Rq w Bd Lb b q) (gb : Lb ≤ 400000000) (hB : Bd ≤ w.heap.size) (hr : sgn (p - q).num = k) : Calls Try.prog 68 #[.agg #[.bool a.s, .slice a.A a.n a.c, .slice a.B a.m a.d], .agg #[.bool b.s, .slice b.A b.n b.c, .slice b.B b.m b.d]] w (RetB w (.int .i64 k)) := by
  obtain ⟨xs, ys, h1, h2, h3, h4, h5⟩ := ha
  obtain ⟨us, vs, k1, k2, k3, k4, k5⟩ := hb
  exact rcmp3_any h1 (by omega) h2 (by omega) k1 (by omega) k2 (by omega) hB (by rw [h5, k5]; exact hr)
theorem norm_q {w : World} {Bd La : Nat} {a : Rc} {p r : Rat} (ha : Rq w Bd La a p) (ga : La ≤ 400000000) (hB : Bd ≤ w.heap.size) (hr : p = r) : Calls Try.prog 78 #[.agg #[.bool a.s, .slice a.A a.n a.c, .slice a.B a.m a.d]] w (RetN w (La + 1) r) := by
  obtain ⟨xs, ys, h1, h2, h3, h4, h5⟩ := ha
  have z : (dig (zmag r.num)).length ≤ La + 1 ∧ (dig r.den).length ≤ La + 1 := by rw [← hr]; exact sz_rd h1 h2 h5 h3 h4
  refine (pnorm_any (q := r) h1 (by omega) h2 (by omega) hB (by rw [h5]; exact hr)).mono ?_
  rintro e w' ⟨A, c, B, d, rfl, R, R', hb⟩
  exact ⟨⟨zneg r.num, A, _, c, B, _, d⟩, rfl, ⟨rfl, R, R', z.1, z.2⟩, hb⟩
theorem sign_q {w : World} {Bd La : Nat} {a : Rc} {p : Rat} {k : Int} (ha : Rq w Bd La a p) (ga : La ≤ 400000000) (hB : Bd ≤ w.heap.size) (hr : sgn p.num = k) : Calls Try.prog 39 #[.agg #[.bool a.s, .slice a.A a.n a.c, .slice a.B a.m a.d]] w (RetB w (.int .i64 k)) := by
  obtain ⟨xs, ys, h1, h2, h3, h4, h5⟩ := ha
  exact psign_any h1 (by omega) h2 (by omega) hB (by rw [h5]; exact hr)
theorem of_q {w : World} {x y : Int} {q : Rat} (hx0 : -9223372036854775808 ≤ x) (hx1 : x ≤ 9223372036854775807) (hy0 : -9223372036854775808 ≤ y) (hy1 : y ≤ 9223372036854775807) (hq : Rat.divInt x y = q) (hy : y ≠ 0) : Calls Try.prog 38 #[.int .i64 x, .int .i64 y] w (RetNB w 2 q true) := by
  have z : (dig (zmag q.num)).length ≤ 2 ∧ (dig q.den).length ≤ 2 := sz_divInt hq (lt64 hx0 hx1) (lt64 hy0 hy1) (by omega)
  refine (pof_any (q := q) hx0 hx1 hy0 hy1 hq (decide_eq_true hy)).mono ?_
  rintro e w' ⟨A, c, B, d, rfl, R, R', hb⟩
  exact ⟨⟨zneg q.num, A, _, c, B, _, d⟩, rfl, ⟨rfl, R, R', z.1, z.2⟩, hb⟩
end

section
open Go.RowKit


/-- the lesser, the greater of two numbers -/
def rlo (p q : Rat) : Rat := if q < p then q else p
def rhi (p q : Rat) : Rat := if q < p then p else q
theorem rlo_of_lt {p q : Rat} (h : q < p) : rlo p q = q := if_pos h
theorem rhi_of_lt {p q : Rat} (h : q < p) : rhi p q = p := if_pos h
theorem rlo_of_le {p q : Rat} (h : p ≤ q) : rlo p q = p := if_neg (Rat.not_lt.2 h)
theorem rhi_of_le {p q : Rat} (h : p ≤ q) : rhi p q = q := if_neg (Rat.not_lt.2 h)
theorem rlo_le_rhi (p q : Rat) : rlo p q ≤ rhi p q := by unfold rlo rhi; split <;> grind
theorem cmp_gt {p q : Rat} : 0 < sgn (p - q).num ↔ q < p := by
  constructor
  · intro h
    refine Rat.not_le.1 fun h2 => ?_
    have := sgn_le h2
    omega
  · intro h
    have h1 := sgn_lt h
    have e : (q - p).num = -(p - q).num := by rw [← Rat.neg_num, Rat.neg_sub]
    rw [e] at h1
    unfold sgn at *
    rw [Int.sign_neg] at h1
    omega
theorem cmp_lt {p q : Rat} : sgn (p - q).num < 0 ↔ p < q := by
  rw [← cmp_gt (p := q) (q := p)]
  have e : (q - p).num = -(p - q).num := by rw [← Rat.neg_num, Rat.neg_sub]
  rw [e]
  unfold sgn
  rw [Int.sign_neg]
  omega
theorem cmp_le {p q : Rat} : sgn (p - q).num ≤ 0 ↔ p ≤ q := by
  have h := cmp_gt (p := p) (q := q)
  rw [← Rat.not_lt, ← h]
  omega
theorem cmp_eq {p q : Rat} : sgn (p - q).num = 0 ↔ p = q := by
  have h1 := cmp_gt (p := p) (q := q)
  have h2 := cmp_lt (p := p) (q := q)
  constructor
  · intro h
    have a : ¬ q < p := fun x => by have := h1.2 x; omega
    have b : ¬ p < q := fun x => by have := h2.2 x; omega
    grind
  · rintro rfl
    rw [Rat.sub_self]
    rfl

theorem rhi_ge {p q : Rat} (h : q ≤ p) : rhi p q = p := by unfold rhi; split <;> grind

end

section
open Go.RowKit Go.Builtin

/-- the cells of element i -/
def AtQ (w : World) (ad : Addr) (i : Nat) (x : Rc) : Prop :=
  w.cell? (ad.add (i * 3)) = some (.bool x.s) ∧ w.cell? (ad.add (i * 3 + 1)) = some (.slice x.A x.n x.c) ∧ w.cell? (ad.add (i * 3 + 2)) = some (.slice x.B x.m x.d)
/-- the number, and its normal form where nf says so -/
def Pq (nf : Bool) (w : World) (Bd L : Nat) (x : Rc) (q : Rat) : Prop := Rq w Bd L x q ∧ (nf = true → Nq w Bd L x q)
theorem Pq.of_nq {nf : Bool} {w : World} {Bd L : Nat} {x : Rc} {q : Rat} (h : Nq w Bd L x q) : Pq nf w Bd L x q := ⟨h.rq, fun _ => h⟩
theorem Pq.nq {w : World} {Bd L : Nat} {x : Rc} {q : Rat} (h : Pq true w Bd L x q) : Nq w Bd L x q := h.2 rfl
theorem Pq.then_ {nf : Bool} {w w' : World} {L : Nat} {x : Rc} {q : Rat} (h : Pq nf w w.heap.size L x q) (hb : Below w.heap.size w w') : Pq nf w' w'.heap.size L x q := ⟨h.1.then_ hb, fun e => (h.2 e).then_ hb⟩
theorem Pq.upto {nf : Bool} {w w' : World} {Bd L : Nat} {x : Rc} {q : Rat} (h : Pq nf w Bd L x q) (hb : Below w.heap.size w w') (hB : Bd ≤ w.heap.size) : Pq nf w' w'.heap.size L x q := ⟨h.1.upto hb hB, fun e => (h.2 e).upto hb hB⟩
theorem Pq.le {nf : Bool} {w : World} {Bd L M : Nat} {x : Rc} {q : Rat} (h : Pq nf w Bd L x q) (hl : L ≤ M) : Pq nf w Bd M x q := ⟨h.1.le hl, fun e => (h.2 e).le hl⟩
/-- the slice reads as n ratios -/
structure LQ (nf : Nat → Bool) (w : World) (Bd L : Nat) (A : Option Addr) (n c : Nat) (X : Nat → Rc) (q : Nat → Rat) : Prop where
  cap : n ≤ c
  cbig : c ≤ 9223372036854775807
  cells : 0 < n → ∃ ad, A = some ad ∧ ad.block < Bd ∧ ∀ i, i < n → AtQ w ad i (X i)
  nums : ∀ i, i < n → Pq (nf i) w Bd L (X i) (q i)
theorem AtQ.keep {w w' : World} {Bd : Nat} {ad : Addr} {i : Nat} {x : Rc} (h : AtQ w ad i x) (hb : Below Bd w w') (ha : ad.block < Bd) : AtQ w' ad i x :=
  ⟨(hb.cell (by rw [block_add]; exact ha)).trans h.1, (hb.cell (by rw [block_add]; exact ha)).trans h.2.1, (hb.cell (by rw [block_add]; exact ha)).trans h.2.2⟩
theorem LQ.upto {nf : Nat → Bool} {w w' : World} {Bd L n c : Nat} {A : Option Addr} {X : Nat → Rc} {q : Nat → Rat} (h : LQ nf w Bd L A n c X q) (hb : Below w.heap.size w w') (hB : Bd ≤ w.heap.size) : LQ nf w' w'.heap.size L A n c X q :=
  ⟨h.cap, h.cbig, fun hn => by
    obtain ⟨ad, e, ha, hi⟩ := h.cells hn
    exact ⟨ad, e, Nat.lt_of_lt_of_le ha (Nat.le_trans hB hb.size), fun i hin => (hi i hin).keep hb (by omega)⟩, fun i hi => (h.nums i hi).upto hb hB⟩
theorem LQ.then_ {nf : Nat → Bool} {w w' : World} {L n c : Nat} {A : Option Addr} {X : Nat → Rc} {q : Nat → Rat} (h : LQ nf w w.heap.size L A n c X q) (hb : Below w.heap.size w w') : LQ nf w' w'.heap.size L A n c X q := h.upto hb (Nat.le_refl _)
theorem LQ.le {nf : Nat → Bool} {w : World} {Bd L M n c : Nat} {A : Option Addr} {X : Nat → Rc} {q : Nat → Rat} (h : LQ nf w Bd L A n c X q) (hl : L ≤ M) : LQ nf w Bd M A n c X q := ⟨h.cap, h.cbig, h.cells, fun i hi => (h.nums i hi).le hl⟩
theorem LQ.raw {nf : Nat → Bool} {w : World} {Bd L n c : Nat} {A : Option Addr} {X : Nat → Rc} {q : Nat → Rat} (h : LQ nf w Bd L A n c X q) : LQ (fun _ => false) w Bd L A n c X q := ⟨h.cap, h.cbig, h.cells, fun i hi => ⟨(h.nums i hi).1, fun e => by cases e⟩⟩
theorem LQ.empty (nf : Nat → Bool) (w : World) (Bd L : Nat) (A : Option Addr) {c : Nat} (hc : c ≤ 9223372036854775807) (X : Nat → Rc) (q : Nat → Rat) : LQ nf w Bd L A 0 c X q := ⟨Nat.zero_le _, hc, fun h => absurd h (by omega), fun i hi => by omega⟩
/-- element i, as the walk reads it -/
theorem LQ.at_ {nf : Nat → Bool} {w : World} {Bd L n c : Nat} {A : Option Addr} {X : Nat → Rc} {q : Nat → Rat} (h : LQ nf w Bd L A n c X q) {i : Nat} (hi : i < n) : ∃ ad, A = some ad ∧ ad.block < Bd ∧ w.cell? (ad.add (i * 3)) = some (.bool (X i).s) ∧
    w.cell? ⟨(ad.add (i * 3)).block, (ad.add (i * 3)).off + 1, none⟩ = some (.slice (X i).A (X i).n (X i).c) ∧ w.cell? ⟨(ad.add (i * 3)).block, (ad.add (i * 3)).off + 2, none⟩ = some (.slice (X i).B (X i).m (X i).d) := by
  obtain ⟨ad, e, hb, hc⟩ := h.cells (by omega)
  obtain ⟨e0, e1, e2⟩ := hc i hi
  rw [← add_add_] at e1 e2
  exact ⟨ad, e, hb, e0, e1, e2⟩
/-- the cells of the first n elements -/
def cellsQ (X : Nat → Rc) : Nat → List Value
  | 0 => []
  | n + 1 => cellsQ X n ++ [.bool (X n).s, .slice (X n).A (X n).n (X n).c, .slice (X n).B (X n).m (X n).d]
theorem cellsQ_length (X : Nat → Rc) : ∀ n, (cellsQ X n).length = n * 3
  | 0 => rfl
  | n + 1 => by rw [cellsQ, List.length_append, cellsQ_length X n]; simp; omega
theorem cellsQ_at (X : Nat → Rc) : ∀ {n i : Nat}, i < n → (cellsQ X n)[i * 3]? = some (.bool (X i).s) ∧ (cellsQ X n)[i * 3 + 1]? = some (.slice (X i).A (X i).n (X i).c) ∧ (cellsQ X n)[i * 3 + 2]? = some (.slice (X i).B (X i).m (X i).d)
  | 0, i, h => by omega
  | n + 1, i, h => by
    have hl := cellsQ_length X n
    rw [cellsQ]
    by_cases e : i = n
    · subst e
      refine ⟨?_, ?_, ?_⟩ <;> rw [List.getElem?_append_right (by omega)]
      · rw [hl, Nat.sub_self]; rfl
      · rw [hl, show i * 3 + 1 - i * 3 = 1 by omega]; rfl
      · rw [hl, show i * 3 + 2 - i * 3 = 2 by omega]; rfl
    · obtain ⟨h0, h1, h2⟩ := cellsQ_at X (n := n) (i := i) (by omega)
      refine ⟨?_, ?_, ?_⟩ <;> rw [List.getElem?_append_left (by omega)] <;> assumption
theorem cellsQ_some {X : Nat → Rc} {n j : Nat} {u : Value} (h : (cellsQ X n)[j]? = some u) : ∃ i, i < n ∧ ((j = i * 3 ∧ u = .bool (X i).s) ∨ (j = i * 3 + 1 ∧ u = .slice (X i).A (X i).n (X i).c) ∨ (j = i * 3 + 2 ∧ u = .slice (X i).B (X i).m (X i).d)) := by
  have hj := (List.getElem?_eq_some_iff.1 h).1
  rw [cellsQ_length] at hj
  obtain ⟨h0, h1, h2⟩ := cellsQ_at X (n := n) (i := j / 3) (by omega)
  refine ⟨j / 3, by omega, ?_⟩
  rcases (by omega : j = j / 3 * 3 ∨ j = j / 3 * 3 + 1 ∨ j = j / 3 * 3 + 2) with e | e | e
  · rw [← e, h] at h0; exact .inl ⟨e, by simpa using h0⟩
  · rw [← e, h] at h1; exact .inr (.inl ⟨e, by simpa using h1⟩)
  · rw [← e, h] at h2; exact .inr (.inr ⟨e, by simpa using h2⟩)
theorem cellsQ_congr {X Y : Nat → Rc} : ∀ {n : Nat}, (∀ i, i < n → X i = Y i) → cellsQ X n = cellsQ Y n
  | 0, _ => rfl
  | n + 1, h => by rw [cellsQ, cellsQ, cellsQ_congr fun i hi => h i (by omega), h n (by omega)]
/-- one list behind another -/
def catf {α : Type} (X : Nat → α) (n : Nat) (Y : Nat → α) (i : Nat) : α := if i < n then X i else Y (i - n)
theorem cellsQ_cat (X Y : Nat → Rc) (n : Nat) : ∀ m, cellsQ (catf X n Y) (n + m) = cellsQ X n ++ cellsQ Y m
  | 0 => by
    rw [Nat.add_zero, cellsQ, List.append_nil]
    exact cellsQ_congr fun i hi => by simp [catf, hi]
  | m + 1 => by
    rw [← Nat.add_assoc, cellsQ, cellsQ_cat X Y n m, cellsQ, List.append_assoc]
    have e : catf X n Y (n + m) = Y m := by rw [catf, if_neg (by omega), Nat.add_sub_cancel_left]
    rw [e]
/-- no limb -/
def NoU (u : Value) : Prop := ∀ x, u ≠ .int .u32 x
theorem cellsQ_noU {X : Nat → Rc} {n j : Nat} {u : Value} (h : (cellsQ X n)[j]? = some u) : NoU u := by
  obtain ⟨i, _, h1⟩ := cellsQ_some h
  rcases h1 with ⟨_, rfl⟩ | ⟨_, rfl⟩ | ⟨_, rfl⟩ <;> exact fun x e => by cases e
/-- v is a list of the call's own: nil, or a block from number B on, without a limb -/
def OwnQ (nf : Nat → Bool) (w : World) (B L : Nat) (v : Value) (n : Nat) (X : Nat → Rc) (q : Nat → Rat) : Prop :=
  w.ownsRow B 27 3 v n (cellsQ X n) ∧ (∀ g, v.ownBlock = some g → ∃ cur, w.heap[g]? = some (.cells cur 27 (0, 0)) ∧ ∀ (j : Nat) u, cur[j]? = some u → NoU u) ∧ ∀ i, i < n → Pq (nf i) w w.heap.size L (X i) (q i)
theorem OwnQ.nil (nf : Nat → Bool) (w : World) (B L : Nat) (X : Nat → Rc) (q : Nat → Rat) : OwnQ nf w B L (.slice none 0 0) 0 X q :=
  ⟨World.ownsRow_nil _ _ _ _, fun g h => by simp [Value.ownBlock] at h, fun i hi => by omega⟩
theorem OwnQ.lt {nf : Nat → Bool} {w : World} {B L n : Nat} {v : Value} {X : Nat → Rc} {q : Nat → Rat} (h : OwnQ nf w B L v n X q) {g : Nat} (hg : v.ownBlock = some g) : B ≤ g ∧ g < w.heap.size := h.1.lt g hg
theorem ownsRow_block {w w' : World} {B : Nat} {e : TypeId} {size : Nat} {v : Value} {n : Nat} {xs : List Value} (h : w.ownsRow B e size v n xs) (hb : ∀ g, v.ownBlock = some g → w'.heap[g]? = w.heap[g]?) : w'.ownsRow B e size v n xs := by
  refine ⟨h.1, ?_⟩
  rcases h.2 with hn | ⟨g, cap, cur, rfl, hB, hgg, rest⟩
  · exact .inl hn
  · exact .inr ⟨g, cap, cur, rfl, hB, by rw [hb g rfl]; exact hgg, rest⟩
theorem OwnQ.then_ {nf : Nat → Bool} {w w' : World} {B L n : Nat} {v : Value} {X : Nat → Rc} {q : Nat → Rat} (h : OwnQ nf w B L v n X q) (hb : Below w.heap.size w w') : OwnQ nf w' B L v n X q :=
  ⟨ownsRow_block h.1 fun g hg => hb.block g (h.lt hg).2, fun g hg => by
    obtain ⟨cur, h1, h2⟩ := h.2.1 g hg
    exact ⟨cur, (hb.block g (h.lt hg).2).trans h1, h2⟩, fun i hi => (h.2.2 i hi).then_ hb⟩
theorem OwnQ.le {nf : Nat → Bool} {w : World} {B L M n : Nat} {v : Value} {X : Nat → Rc} {q : Nat → Rat} (h : OwnQ nf w B L v n X q) (hl : L ≤ M) : OwnQ nf w B M v n X q := ⟨h.1, h.2.1, fun i hi => (h.2.2 i hi).le hl⟩
/-- limbs beside a list of the call's own that grows or is written -/
theorem Rd.grownQ {w w' : World} {n c : Nat} {A : Option Addr} {ys : List Nat} {row : Option Nat} (hx : Rd w w.heap.size A n c ys) (h : ∀ g, row = some g → ∃ cur t z, w.heap[g]? = some (.cells cur t z) ∧ ∀ (j : Nat) u, cur[j]? = some u → NoU u) (hg : w.grownBy w' row) : Rd w' w'.heap.size A n c ys := by
  refine ⟨hx.len, hx.limbs, hx.cap, hx.big, hx.cbig, fun h0 => ?_⟩
  obtain ⟨ad, e, hb, hc⟩ := hx.cells h0
  refine ⟨ad, e, Nat.lt_of_lt_of_le hb hg.size, fun j hj => ?_⟩
  have hcj := hc j hj
  refine (World.cell?_of_block (hg.block _ (by rw [block_add]; exact hb) fun e2 => ?_)).trans hcj
  obtain ⟨cur, t, z, h3, h4⟩ := h _ e2.symm
  simp only [World.cell?, h3] at hcj
  split at hcj
  · cases hcj
  · exact h4 _ _ hcj _ rfl
theorem OwnQ.noU {nf : Nat → Bool} {w : World} {B L n : Nat} {v : Value} {X : Nat → Rc} {q : Nat → Rat} (h : OwnQ nf w B L v n X q) : ∀ g, v.ownBlock = some g → ∃ cur t z, w.heap[g]? = some (.cells cur t z) ∧ ∀ (j : Nat) u, cur[j]? = some u → NoU u := fun g hg => by
  obtain ⟨cur, h1, h2⟩ := h.2.1 g hg
  exact ⟨cur, _, _, h1, h2⟩
theorem Rq.grownQ {w w' : World} {L : Nat} {x : Rc} {q : Rat} {row : Option Nat} (hx : Rq w w.heap.size L x q) (h : ∀ g, row = some g → ∃ cur t z, w.heap[g]? = some (.cells cur t z) ∧ ∀ (j : Nat) u, cur[j]? = some u → NoU u) (hg : w.grownBy w' row) : Rq w' w'.heap.size L x q := by
  obtain ⟨xs, ys, h1, h2, h3⟩ := hx
  exact ⟨xs, ys, h1.grownQ h hg, h2.grownQ h hg, h3⟩
theorem Nq.grownQ {w w' : World} {L : Nat} {x : Rc} {q : Rat} {row : Option Nat} (hx : Nq w w.heap.size L x q) (h : ∀ g, row = some g → ∃ cur t z, w.heap[g]? = some (.cells cur t z) ∧ ∀ (j : Nat) u, cur[j]? = some u → NoU u) (hg : w.grownBy w' row) : Nq w' w'.heap.size L x q :=
  ⟨hx.1, hx.2.1.grownQ h hg, hx.2.2.1.grownQ h hg, hx.2.2.2⟩
theorem Pq.grownQ {nf : Bool} {w w' : World} {L : Nat} {x : Rc} {q : Rat} {row : Option Nat} (hx : Pq nf w w.heap.size L x q) (h : ∀ g, row = some g → ∃ cur t z, w.heap[g]? = some (.cells cur t z) ∧ ∀ (j : Nat) u, cur[j]? = some u → NoU u) (hg : w.grownBy w' row) : Pq nf w' w'.heap.size L x q :=
  ⟨hx.1.grownQ h hg, fun e => (hx.2 e).grownQ h hg⟩
/-- the finished list is read -/
theorem OwnQ.rd {nf : Nat → Bool} {w : World} {B L n : Nat} {v : Value} {X : Nat → Rc} {q : Nat → Rat} (h : OwnQ nf w B L v n X q) : ∃ A c, v = .slice A n c ∧ LQ nf w w.heap.size L A n c X q := by
  rcases h.1.2 with ⟨rfl, rfl⟩ | ⟨g, cap, cur, rfl, hB, hgg, h1, h2, h3, h4⟩
  · exact ⟨_, _, rfl, LQ.empty _ _ _ _ _ (by omega) _ _⟩
  · refine ⟨_, _, rfl, h1, by simp only [maxLen] at h2; omega, fun _ => ⟨_, rfl, (Array.getElem?_eq_some_iff.1 hgg).1, fun i hi => ?_⟩, h.2.2⟩
    obtain ⟨c0, c1, c2⟩ := cellsQ_at X hi
    exact ⟨h.1.cells (g := g) rfl _ _ c0, h.1.cells (g := g) rfl _ _ c1, h.1.cells (g := g) rfl _ _ c2⟩
theorem OwnQ.form {nf : Nat → Bool} {w : World} {B L n : Nat} {v : Value} {X : Nat → Rc} {q : Nat → Rat} (h : OwnQ nf w B L v n X q) : ∃ A c, v = .slice A n c ∧ n ≤ c ∧ c ≤ 9223372036854775807 := by
  obtain ⟨A, c, e, h1⟩ := h.rd
  exact ⟨A, c, e, h1.cap, h1.cbig⟩
theorem OwnQ.congr {nf : Nat → Bool} {w : World} {B L n : Nat} {v : Value} {X Y : Nat → Rc} {q r : Nat → Rat} (h : OwnQ nf w B L v n X q) (h1 : ∀ i, i < n → X i = Y i) (h2 : ∀ i, i < n → q i = r i) {mf : Nat → Bool} (h3 : ∀ i, i < n → mf i = true → nf i = true) : OwnQ mf w B L v n Y r :=
  ⟨by rw [← cellsQ_congr h1]; exact h.1, h.2.1, fun i hi => by rw [← h1 i hi, ← h2 i hi]; exact ⟨(h.2.2 i hi).1, fun e => (h.2.2 i hi).2 (h3 i hi e)⟩⟩
theorem Try.infoRat : (Try.prog.info? 27).map (fun i => (i.zero, i.size, i.bytes)) = some (some (.agg #[.bool false, .slice none 0 0, .slice none 0 0]), 3, 56) := by kernel_rfl
theorem zeroQ_noU {k j : Nat} {u : Value} (h : (zeroCells (Value.agg #[.bool false, .slice none 0 0, .slice none 0 0]).cells k)[j]? = some u) : NoU u := by
  simp only [zeroCells, Value.cells, Array.getElem?_map] at h
  cases hq : (Array.range (k * #[Value.bool false, Value.slice none 0 0, Value.slice none 0 0].size))[j]? with
  | none => rw [hq] at h; cases h
  | some i =>
    rw [hq] at h
    simp only [Option.map_some, Option.some.injEq] at h
    subst h
    have h3 : i % 3 < 3 := Nat.mod_lt _ (by omega)
    have e : i % #[Value.bool false, Value.slice none 0 0, Value.slice none 0 0].size = i % 3 := rfl
    rw [e]
    rcases (by omega : i % 3 = 0 ∨ i % 3 = 1 ∨ i % 3 = 2) with e | e | e <;> rw [e] <;> exact fun x hx => by cases hx
/-- 'append(v, ys...)': v a list of the call's own -/
theorem run_append_rats {nf : Nat → Bool} {w : World} {B L n : Nat} {v : Value} {X : Nat → Rc} {q : Nat → Rat} {ty : TypeId} (hown : OwnQ nf w B L v n X q) (ad : Addr) (m c : Nat) (Y : Nat → Rc) (p : Nat → Rat) (mf : Nat → Bool)
    (hcell : ∀ i, i < m → AtQ w ad i (Y i)) (hnum : ∀ i, i < m → Pq (mf i) w w.heap.size L (Y i) (p i)) (hl : n + m ≤ 1000000000) (hB : B ≤ w.heap.size) :
    ∃ v' w', (append_ #[29, 29] ty #[v, .slice (some ad) m c]).run Try.prog w = .ok v' w' ∧ OwnQ (catf nf n mf) w' B L v' (n + m) (catf X n Y) (catf q n p) ∧ w.grownBy w' v.ownBlock := by
  obtain ⟨i0, hi, hz0, hz1, hz2⟩ := info_parts Try.infoRat
  have hnews : ∀ j u, (cellsQ Y m)[j]? = some u → w.cell? (ad.add j) = some u := by
    intro j u hu
    obtain ⟨i, hi, h⟩ := cellsQ_some hu
    obtain ⟨e0, e1, e2⟩ := hcell i hi
    rcases h with ⟨rfl, rfl⟩ | ⟨rfl, rfl⟩ | ⟨rfl, rfl⟩ <;> assumption
  have h1c : ∀ u ∈ cellsQ Y m, u.oneCell' = true := by
    intro u hu
    obtain ⟨j, hj, e⟩ := List.mem_iff_getElem.1 hu
    obtain ⟨i, _, h⟩ := cellsQ_some (X := Y) (n := m) (j := j) (u := u) (by rw [← e]; exact List.getElem?_eq_getElem hj)
    rcases h with ⟨_, rfl⟩ | ⟨_, rfl⟩ | ⟨_, rfl⟩ <;> rfl
  obtain ⟨v', w', hr, h1, h2, _⟩ := run_append_own (P := Try.prog) w B 29 ty 27 i0 (.agg #[.bool false, .slice none 0 0, .slice none 0 0]) 3 56 Try.underlying29 hi hz0 hz1 hz2 rfl (by decide) v n (cellsQ X n) hown.1 ad m c (cellsQ Y m) (cellsQ_length Y m) hnews h1c (by simp only [maxLen]; omega) (by omega) hB
  refine ⟨v', w', hr, ⟨by rw [cellsQ_cat]; exact h1, ?_, fun i hi => ?_⟩, h2⟩
  · rcases hown.1.2 with ⟨rfl, rfl⟩ | ⟨g, cap, cur, rfl, hBg, hgg, q1, q2, q3, q4⟩
    · by_cases h0 : m = 0
      · subst h0
        have hr2 : (append_ #[29, 29] ty #[.slice none 0 0, .slice (some ad) 0 c]).run Try.prog w = .ok (.slice none 0 0) w := by
          simp [Builtin.append_, run_underlying Try.underlying29, sizeOf, typeInfo, hi, Builtin.lenOf, Builtin.firstCells, loadCells, loadCellsFrom]
        rw [hr2] at hr
        injection hr with e1 e2
        subst e1 e2
        intro g hg
        simp [Value.ownBlock] at hg
      · have hr2 := run_append_nil (P := Try.prog) w 29 ty 27 i0 (.agg #[.bool false, .slice none 0 0, .slice none 0 0]) Try.underlying29 hi hz0 ad m c (cellsQ Y m) (by rw [cellsQ_length, hz1]) hnews (by omega) (by omega) (by rw [hz2]; omega)
        rw [hr2] at hr
        injection hr with e1 e2
        subst e1 e2
        intro g hg
        simp only [Value.ownBlock, Option.some.injEq] at hg
        subst hg
        refine ⟨_, heap_alloc_new w.drew _, fun j u hu => ?_⟩
        rw [Array.getElem?_append] at hu
        split at hu
        · exact cellsQ_noU (X := Y) (n := m) (j := j) (by simpa using hu)
        · exact zeroQ_noU hu
    · obtain ⟨cur', k1, k2⟩ := hown.2.1 g rfl
      rw [hgg] at k1
      simp only [Option.some.injEq, Obj.cells.injEq, and_true] at k1
      subst k1
      by_cases hroom : n + m ≤ cap
      · have hr2 := run_append_room (P := Try.prog) w 29 ty 27 i0 Try.underlying29 hi g n cap cur hgg ad m c (cellsQ Y m) (by rw [cellsQ_length, hz1]) hnews h1c hroom (by rw [hz1, cellsQ_length]; omega)
        rw [hr2] at hr
        injection hr with e1 e2
        subst e1 e2
        intro g' hg'
        simp only [Value.ownBlock, Option.some.injEq] at hg'
        subst hg'
        refine ⟨_, setRow_heap w g cur _ 27 _ hgg, fun j u hu => ?_⟩
        simp only [List.getElem?_toArray, List.getElem?_append] at hu
        split at hu
        · split at hu
          · rw [List.getElem?_take] at hu
            split at hu
            · exact k2 _ _ (by simpa using hu)
            · cases hu
          · exact cellsQ_noU hu
        · rw [List.getElem?_drop] at hu
          exact k2 _ _ (by simpa using hu)
      · have holds : ∀ j u, (cellsQ X n)[j]? = some u → w.cell? ((⟨g, 0, none⟩ : Addr).add j) = some u := hown.1.cells (g := g) rfl
        have hr2 := run_append_grow (P := Try.prog) w 29 ty 27 i0 (.agg #[.bool false, .slice none 0 0, .slice none 0 0]) Try.underlying29 hi hz0 ⟨g, 0, none⟩ n cap (cellsQ X n) (by rw [cellsQ_length, hz1]) holds ad m c (cellsQ Y m) (by rw [cellsQ_length, hz1]) hnews (by omega) (by omega) (growslice_fits (by omega) (by rw [hz2]; omega))
        rw [hr2] at hr
        injection hr with e1 e2
        subst e1 e2
        intro g' hg'
        simp only [Value.ownBlock, Option.some.injEq] at hg'
        subst hg'
        refine ⟨_, heap_alloc_new w.drew _, fun j u hu => ?_⟩
        rw [Array.getElem?_append] at hu
        split at hu
        · rw [Array.getElem?_append] at hu
          split at hu
          · exact cellsQ_noU (X := X) (n := n) (by simpa using hu)
          · exact cellsQ_noU (X := Y) (n := m) (by simpa using hu)
        · exact zeroQ_noU hu
  · unfold catf
    by_cases hin : i < n
    · simp only [if_pos hin]
      exact (hown.2.2 i hin).grownQ hown.noU h2
    · simp only [if_neg hin]
      exact (hnum (i - n) (by omega)).grownQ hown.noU h2
theorem wpList_append_rats {nf : Nat → Bool} {ops : Array Oper} {rest : List Oper} {o : Oper} {a : Act} {Q : Exit → Act → World → Prop} {w : World} (hgd : o.guard = none) (s x : Operand)
    (ho : o.op = .call { callee := .builtin .append, args := #[s, x], argTypes := #[29, 29] })
    (B L n : Nat) (v : Value) (X : Nat → Rc) (q : Nat → Rat) (hs : a.eval s = v) (hown : OwnQ nf w B L v n X q) (ad : Addr) (m c : Nat) (Y : Nat → Rc) (p : Nat → Rat) (mf : Nat → Bool) (hx : a.eval x = .slice (some ad) m c)
    (hcell : ∀ i, i < m → AtQ w ad i (Y i)) (hnum : ∀ i, i < m → Pq (mf i) w w.heap.size L (Y i) (p i)) (hl : n + m ≤ 1000000000) (hB : B ≤ w.heap.size)
    (h : ∀ v' w', OwnQ (catf nf n mf) w' B L v' (n + m) (catf X n Y) (catf q n p) → w.grownBy w' v.ownBlock → wpList Try.prog ops Q rest (a.put o.dst v') w') : wpList Try.prog ops Q (o :: rest) a w := by
  refine wpList_plain hgd fun K hK => ?_
  obtain ⟨v', w', hr, h2, h3⟩ := run_append_rats (ty := o.type) hown ad m c Y p mf hcell hnum hl hB
  unfold Oper.wp execOp
  simp only [ho, resolve, invoke, builtin, Sem.run_bind, Sem.run_pure, Result.andThen_ok, List.map_toArray, List.map_cons, List.map_nil, hs, hx, hr]
  exact hK _ _ (h v' w' h2 h3)
/-- beside an append or a store: old memory -/
theorem OwnQ.below {nf : Nat → Bool} {w w' w0 : World} {B L n : Nat} {v : Value} {X : Nat → Rc} {q : Nat → Rat} (h : OwnQ nf w B L v n X q) (hg : w.grownBy w' v.ownBlock) (hb : Below B w0 w) (hB : B ≤ w.heap.size) : Below B w0 w' :=
  hb.grown hg hB fun _k hk => (h.lt hk).1
/-- element k is another one -/
def upd {α : Type} (X : Nat → α) (k : Nat) (x : α) (i : Nat) : α := if i = k then x else X i
theorem upd_same {α : Type} (X : Nat → α) (k : Nat) (x : α) : upd X k x k = x := if_pos rfl
theorem upd_ne {α : Type} {X : Nat → α} {k i : Nat} {x : α} (h : i ≠ k) : upd X k x i = X i := if_neg h
theorem cellsQ_upd {X : Nat → Rc} {n k : Nat} {x : Rc} (hk : k < n) : cellsQ (upd X k x) n = (((cellsQ X n).set (k * 3) (.bool x.s)).set (k * 3 + 1) (.slice x.A x.n x.c)).set (k * 3 + 2) (.slice x.B x.m x.d) := by
  refine List.ext_getElem? fun j => ?_
  have hl := cellsQ_length X n
  have hl2 := cellsQ_length (upd X k x) n
  by_cases hj : j < n * 3
  · obtain ⟨a0, a1, a2⟩ := cellsQ_at (upd X k x) (n := n) (i := j / 3) (by omega)
    obtain ⟨b0, b1, b2⟩ := cellsQ_at X (n := n) (i := j / 3) (by omega)
    by_cases e : j / 3 = k
    · rw [e, upd_same] at a0 a1 a2
      rcases (by omega : j = k * 3 ∨ j = k * 3 + 1 ∨ j = k * 3 + 2) with rfl | rfl | rfl
      · rw [a0, List.getElem?_set_ne (by omega), List.getElem?_set_ne (by omega), List.getElem?_set_self (by omega)]
      · rw [a1, List.getElem?_set_ne (by omega), List.getElem?_set_self (by simp; omega)]
      · rw [a2, List.getElem?_set_self (by simp; omega)]
    · rw [upd_ne e] at a0 a1 a2
      rw [List.getElem?_set_ne (by omega), List.getElem?_set_ne (by omega), List.getElem?_set_ne (by omega)]
      rcases (by omega : j = j / 3 * 3 ∨ j = j / 3 * 3 + 1 ∨ j = j / 3 * 3 + 2) with h | h | h <;> rw [h]
      · rw [a0, b0]
      · rw [a1, b1]
      · rw [a2, b2]
  · rw [List.getElem?_eq_none (by omega), List.getElem?_eq_none (by simp; omega)]
/-- the world behind 'out[k] = r' -/
def set3 (w : World) (g k : Nat) (x : Rc) : World := ((w.setCell ⟨g, k * 3, none⟩ (.bool x.s)).setCell ⟨g, k * 3 + 1, none⟩ (.slice x.A x.n x.c)).setCell ⟨g, k * 3 + 2, none⟩ (.slice x.B x.m x.d)
theorem set3_block {w : World} {g k j : Nat} {x : Rc} (h : j ≠ g) : (set3 w g k x).heap[j]? = w.heap[j]? := by
  unfold set3
  rw [Below.heap_setCell _ _ _ _ h, Below.heap_setCell _ _ _ _ h, Below.heap_setCell _ _ _ _ h]
theorem set3_grown (w : World) (g k : Nat) (x : Rc) : w.grownBy (set3 w g k x) (some g) :=
  have h : Below 0 w (set3 w g k x) := (((Below.refl 0 w).setCell (Nat.zero_le _) _).setCell (Nat.zero_le _) _).setCell (Nat.zero_le _) _
  ⟨h.os, h.tape, h.output, h.size, fun j _ hj => set3_block fun e => hj (by rw [e])⟩
theorem OwnQ.set {nf : Nat → Bool} {w : World} {B L n c g k : Nat} {X : Nat → Rc} {q : Nat → Rat} (h : OwnQ nf w B L (.slice (some ⟨g, 0, none⟩) n c) n X q) (hk : k < n) {x : Rc} {r : Rat} {b : Bool} (hx : Pq b w w.heap.size L x r) :
    OwnQ (upd nf k b) (set3 w g k x) B L (.slice (some ⟨g, 0, none⟩) n c) n (upd X k x) (upd q k r) := by
  have hg := set3_grown w g k x
  obtain ⟨cur, h0, hc⟩ := h.2.1 g rfl
  have hw : (set3 w g k x).heap[g]? = some (.cells (((cur.setIfInBounds (k * 3) (.bool x.s)).setIfInBounds (k * 3 + 1) (.slice x.A x.n x.c)).setIfInBounds (k * 3 + 2) (.slice x.B x.m x.d)) 27 (0, 0)) :=
    heap_setCell_same _ g _ _ _ _ (heap_setCell_same _ g _ _ _ _ (heap_setCell_same w g _ _ _ _ h0))
  refine ⟨⟨cellsQ_length _ _, ?_⟩, fun g' hg' => ?_, fun i hi => ?_⟩
  · rcases h.1.2 with ⟨h, _⟩ | ⟨g', cap, cur', hv, hB, hgg, q1, q2, q3, q4⟩
    · simp at h
    · simp only [Value.slice.injEq, Option.some.injEq, Addr.mk.injEq, and_true, true_and] at hv
      obtain ⟨rfl, rfl⟩ := hv
      rw [h0] at hgg
      simp only [Option.some.injEq, Obj.cells.injEq, and_true] at hgg
      subst hgg
      refine .inr ⟨g, c, _, rfl, hB, hw, q1, q2, by simpa using q3, ?_⟩
      simp only [Array.toList_setIfInBounds]
      rw [cellsQ_upd hk, List.take_set, List.take_set, List.take_set, q4]
  · simp only [Value.ownBlock, Option.some.injEq] at hg'
    subst hg'
    refine ⟨_, hw, fun j u hu => ?_⟩
    rw [Array.getElem?_setIfInBounds] at hu
    split at hu
    · split at hu
      · simp only [Option.some.injEq] at hu; subst hu; exact fun x e => by cases e
      · cases hu
    rw [Array.getElem?_setIfInBounds] at hu
    split at hu
    · split at hu
      · simp only [Option.some.injEq] at hu; subst hu; exact fun x e => by cases e
      · cases hu
    rw [Array.getElem?_setIfInBounds] at hu
    split at hu
    · split at hu
      · simp only [Option.some.injEq] at hu; subst hu; exact fun x e => by cases e
      · cases hu
    exact hc _ _ hu
  · by_cases e : i = k
    · subst e
      rw [upd_same, upd_same, upd_same]
      exact hx.grownQ h.noU hg
    · rw [upd_ne e, upd_ne e, upd_ne e]
      exact (h.2.2 i hi).grownQ h.noU hg
/-- element k, as the walk reads and writes it -/
theorem OwnQ.cell {nf : Nat → Bool} {w : World} {B L n c g k : Nat} {X : Nat → Rc} {q : Nat → Rat} (h : OwnQ nf w B L (.slice (some ⟨g, 0, none⟩) n c) n X q) (hk : k < n) :
    w.cell? ⟨g, k * 3, none⟩ = some (.bool (X k).s) ∧ w.cell? ⟨g, k * 3 + 1, none⟩ = some (.slice (X k).A (X k).n (X k).c) ∧ w.cell? ⟨g, k * 3 + 2, none⟩ = some (.slice (X k).B (X k).m (X k).d) := by
  obtain ⟨c0, c1, c2⟩ := cellsQ_at X hk
  have e0 := h.1.cells (g := g) rfl _ _ c0
  have e1 := h.1.cells (g := g) rfl _ _ c1
  have e2 := h.1.cells (g := g) rfl _ _ c2
  rw [Addr.add_lit, Nat.zero_add] at e0 e1 e2
  exact ⟨e0, e1, e2⟩
theorem OwnQ.frozen {nf : Nat → Bool} {w : World} {B L n c g : Nat} {X : Nat → Rc} {q : Nat → Rat} (h : OwnQ nf w B L (.slice (some ⟨g, 0, none⟩) n c) n X q) (j : Nat) : w.frozen? ⟨g, j, none⟩ = false := by
  obtain ⟨cur, hg, _⟩ := h.2.1 g rfl
  exact frozen_of_row w g j cur _ hg
def zeroRc : Rc := ⟨false, none, 0, 0, none, 0, 0⟩
theorem cellsQ_zero : ∀ n, cellsQ (fun _ => zeroRc) n = (madeCells (Value.agg #[.bool false, .slice none 0 0, .slice none 0 0]).cells (n * 3)).toList := by
  intro n
  refine List.ext_getElem? fun j => ?_
  have hl := cellsQ_length (fun _ => zeroRc) n
  by_cases hj : j < n * 3
  · obtain ⟨a0, a1, a2⟩ := cellsQ_at (fun _ => zeroRc) (n := n) (i := j / 3) (by omega)
    have e : (madeCells (Value.agg #[.bool false, .slice none 0 0, .slice none 0 0]).cells (n * 3)).toList[j]? = some (#[Value.bool false, Value.slice none 0 0, Value.slice none 0 0][j % 3]!) := by
      simp [madeCells, Value.cells, hj]
    rw [e]
    rcases (by omega : (j = j / 3 * 3 ∧ j % 3 = 0) ∨ (j = j / 3 * 3 + 1 ∧ j % 3 = 1) ∨ (j = j / 3 * 3 + 2 ∧ j % 3 = 2)) with ⟨h, m⟩ | ⟨h, m⟩ | ⟨h, m⟩ <;> rw [m, h]
    · rw [a0]; rfl
    · rw [a1]; rfl
    · rw [a2]; rfl
  · rw [List.getElem?_eq_none (by omega), List.getElem?_eq_none (by simp [madeCells]; omega)]
/-- 'make([]api.Ratio, n)' -/
theorem wpList_make_rats {ops : Array Oper} {rest : List Oper} {o : Oper} {a : Act} {Q : Exit → Act → World → Prop} {w : World} (hg : o.guard = none) (l c : Operand) (hop : o.op = Op.makeSlice 29 l c)
    (kl kc : IntKind) (M C : Int) (n : Nat) (hl : a.eval l = .int kl M) (hc : a.eval c = .int kc C) (hM : M = (n : Int)) (hC : C = (n : Int)) (hn : n ≤ 1000000000) (B L : Nat) (hB : B ≤ w.heap.size)
    (hK : ∀ w1, OwnQ (fun _ => false) w1 B L (.slice (some ⟨w.heap.size, 0, none⟩) n n) n (fun _ => zeroRc) (fun _ => 0) → Below w.heap.size w w1 → wpList Try.prog ops Q rest (a.put o.dst (.slice (some ⟨w.heap.size, 0, none⟩) n n)) w1) : wpList Try.prog ops Q (o :: rest) a w := by
  obtain ⟨i0, hi, hz0, hz1, hz2⟩ := info_parts Try.infoRat
  subst hM hC
  refine wpList_plain hg fun K hK' => ?_
  have hr := run_make (P := Try.prog) w 29 27 i0 (.agg #[.bool false, .slice none 0 0, .slice none 0 0]) Try.underlying29 hi hz0 kl kc n n (by omega) (Int.le_refl _) (by rw [hz2]; omega) (by omega)
  simp only [Int.toNat_natCast, hz1] at hr
  unfold Oper.wp
  simp [execOp, hop, hl, hc, hr, Result.andThen]
  refine hK' _ _ (hK _ ⟨⟨cellsQ_length _ _, .inr ⟨w.heap.size, n, _, rfl, hB, heap_alloc_new w _, Nat.le_refl _, by simp only [maxLen]; omega, by rw [size_madeCells], ?_⟩⟩, fun g hg => ?_, fun i _ => ⟨Rq.zero _ _ _, fun e => by cases e⟩⟩ ((Below.refl _ _).alloc (Nat.le_refl _) _))
  · rw [cellsQ_zero, List.take_of_length_le (by simp [madeCells])]
  · simp only [Value.ownBlock, Option.some.injEq] at hg
    subst hg
    refine ⟨_, heap_alloc_new w _, fun j u hu => ?_⟩
    exact cellsQ_noU (X := fun _ => zeroRc) (n := n) (j := j) (by rw [cellsQ_zero]; simpa using hu)
end

section
/-- q is a multiple of 1 / P, not below 0 -/
def In (P : Nat) (q : Rat) : Prop := ∃ a : Nat, q * (P : Rat) = (a : Rat)
theorem In.zero (P : Nat) : In P 0 := ⟨0, by simp⟩
theorem In.one (P : Nat) : In P 1 := ⟨P, by simp⟩
theorem In.add {P : Nat} {p q : Rat} (hp : In P p) (hq : In P q) : In P (p + q) := by
  obtain ⟨a, ha⟩ := hp
  obtain ⟨b, hb⟩ := hq
  exact ⟨a + b, by rw [Rat.natCast_add, ← ha, ← hb]; grind⟩
theorem In.mul {P Q : Nat} {p q : Rat} (hp : In P p) (hq : In Q q) : In (P * Q) (p * q) := by
  obtain ⟨a, ha⟩ := hp
  obtain ⟨b, hb⟩ := hq
  exact ⟨a * b, by rw [Rat.natCast_mul, Rat.natCast_mul, ← ha, ← hb]; grind⟩
theorem In.nat {P : Nat} {q : Rat} (h : In P q) (k : Nat) : In P ((k : Rat) * q) := by
  obtain ⟨a, ha⟩ := h
  exact ⟨k * a, by rw [Rat.natCast_mul, ← ha]; grind⟩
theorem natCast_ne {n : Nat} (h : n ≠ 0) : (n : Rat) ≠ 0 := by
  intro e
  have e2 : ((n : Nat) : Rat) = ((0 : Nat) : Rat) := by simpa using e
  exact h (Rat.natCast_inj.1 e2)
theorem mul_den (q : Rat) : q * (q.den : Rat) = (q.num : Rat) := by
  have h := Rat.num_divInt_den q
  rw [Rat.divInt_eq_div] at h
  have h0 : ((q.den : Int) : Rat) ≠ 0 := by
    rw [Rat.intCast_natCast]
    exact natCast_ne q.den_nz
  have e := Rat.div_mul_cancel (a := (q.num : Rat)) h0
  rw [h, Rat.intCast_natCast] at e
  exact e
theorem In.self {q : Rat} (h : 0 ≤ q) : In q.den q := by
  have h1 : 0 ≤ q.num := Rat.num_nonneg.2 h
  refine ⟨q.num.toNat, ?_⟩
  rw [mul_den]
  have e : ((q.num.toNat : Int) : Rat) = (q.num : Rat) := by rw [Int.toNat_of_nonneg h1]
  rw [← e, Rat.intCast_natCast]
theorem In.rest {q : Rat} (h0 : 0 ≤ q) (h1 : q ≤ 1) : In q.den (1 - q) := by
  obtain ⟨a, ha⟩ := In.self h0
  have hle : a ≤ q.den := by
    have h2 : (a : Rat) ≤ ((q.den : Nat) : Rat) := by
      rw [← ha]
      have h3 : (0 : Rat) ≤ (q.den : Rat) := Rat.natCast_nonneg
      have := Rat.mul_le_mul_of_nonneg_right h1 h3
      simpa using this
    exact Rat.natCast_le_natCast.1 h2
  refine ⟨q.den - a, ?_⟩
  have e : ((q.den - a : Nat) : Rat) + (a : Rat) = (q.den : Rat) := by rw [← Rat.natCast_add, Nat.sub_add_cancel hle]
  rw [← ha] at e
  grind
def dprod : List Rat → Nat
  | [] => 1
  | p :: ps => dprod ps * p.den
theorem dprod_pos : ∀ ps, 0 < dprod ps
  | [] => Nat.one_pos
  | p :: ps => Nat.mul_pos (dprod_pos ps) p.den_pos
theorem dprod_append (ps rs : List Rat) : dprod (ps ++ rs) = dprod ps * dprod rs := by
  induction ps with
  | nil => simp [dprod]
  | cons p ps ih => rw [List.cons_append, dprod, dprod, ih]; grind
theorem in_trl : ∀ {ps : List Rat}, (∀ p ∈ ps, 0 ≤ p ∧ p ≤ 1) → ∀ k, In (dprod ps) (trl ps k)
  | [], _, 0 => In.one _
  | [], _, _ + 1 => In.zero _
  | p :: ps, h, k => by
    have h1 := h p (by simp)
    have ih := in_trl (ps := ps) fun q hq => h q (by simp [hq])
    have a := In.rest h1.1 h1.2
    have b := In.self h1.1
    cases k with
    | zero => exact (ih 0).mul a
    | succ k => exact ((ih (k + 1)).mul a).add ((ih k).mul b)
/-- its size -/
theorem sz_in {P i : Nat} {q : Rat} (h : In P q) (h1 : q ≤ 1) (h0 : 0 < P) (hi : P < pw i) (hi1 : 1 ≤ i) : (dig (zmag q.num)).length ≤ i ∧ (dig q.den).length ≤ i := by
  obtain ⟨a, ha⟩ := h
  have hP := natCast_ne (n := P) (by omega)
  have hle : a ≤ P := by
    have h2 : (a : Rat) ≤ ((P : Nat) : Rat) := by
      rw [← ha]
      have h3 : (0 : Rat) ≤ (P : Rat) := Rat.natCast_nonneg
      have := Rat.mul_le_mul_of_nonneg_right h1 h3
      simpa using this
    exact Rat.natCast_le_natCast.1 h2
  refine sz_divInt (a := (a : Int)) (b := (P : Int)) ?_ (by show Int.natAbs _ < _; simp; omega) (by show Int.natAbs _ < _; simp; omega) hi1
  rw [Rat.divInt_eq_div]
  have e : q = q * (P : Rat) / (P : Rat) := (Rat.mul_div_cancel hP).symm
  rw [e, ha, Rat.intCast_natCast, Rat.intCast_natCast]
theorem trl_le_one {ps : List Rat} (h : ∀ p ∈ ps, 0 ≤ p ∧ p ≤ 1) (k : Nat) : trl ps k ≤ 1 := by
  by_cases hk : k < ps.length + 1
  · have e := qs_one (f := trl ps) (n := ps.length + 1) (fun i _ => trl_nonneg h i) hk
    have s := wt_one ps
    unfold wt at s
    have e2 : qs (fun k => 1 * trl ps k) (ps.length + 1) = qs (trl ps) (ps.length + 1) := qs_congr fun i _ => Rat.one_mul _
    rw [← e2, s] at e
    exact e
  · rw [trl_supp (by omega)]
    decide
end

section
open Go.RowKit

structure Nc where
  A : Option Addr
  n : Nat
  c : Nat
/-- a million limbs at most -/
def Sm (m : Nat) : Prop := m < pw 1000000
/-- it reads as m, in any form -/
def Nv (w : World) (Bd : Nat) (x : Nc) (m : Nat) : Prop := ∃ xs, Rd w Bd x.A x.n x.c xs ∧ val xs = m ∧ x.n ≤ 1000000
/-- .. in normal form -/
def Nn (w : World) (Bd : Nat) (x : Nc) (m : Nat) : Prop := Rd w Bd x.A x.n x.c (dig m)
theorem Nn.nv {w : World} {Bd : Nat} {x : Nc} {m : Nat} (h : Nn w Bd x m) (s : Sm m) : Nv w Bd x m := ⟨dig m, h, val_dig m, by rw [← (show Rd w Bd x.A x.n x.c (dig m) from h).len]; exact (dig_len_le _ _).2 s⟩
theorem Nn.then_ {w w' : World} {x : Nc} {m : Nat} (h : Nn w w.heap.size x m) (hb : Below w.heap.size w w') : Nn w' w'.heap.size x m := Rd.then_ h hb
theorem Nv.then_ {w w' : World} {x : Nc} {m : Nat} (h : Nv w w.heap.size x m) (hb : Below w.heap.size w w') : Nv w' w'.heap.size x m := by
  obtain ⟨xs, h1, h2⟩ := h; exact ⟨xs, h1.then_ hb, h2⟩
theorem Nn.upto {w w' : World} {Bd : Nat} {x : Nc} {m : Nat} (h : Nn w Bd x m) (hb : Below w.heap.size w w') (hB : Bd ≤ w.heap.size) : Nn w' w'.heap.size x m := Rd.upto h hb hB
theorem Nv.upto {w w' : World} {Bd : Nat} {x : Nc} {m : Nat} (h : Nv w Bd x m) (hb : Below w.heap.size w w') (hB : Bd ≤ w.heap.size) : Nv w' w'.heap.size x m := by
  obtain ⟨xs, h1, h2⟩ := h; exact ⟨xs, h1.upto hb hB, h2⟩
theorem Nn.zero (w : World) (Bd : Nat) {c : Nat} (hc : c ≤ 9223372036854775807) (A : Option Addr) : Nn w Bd ⟨A, 0, c⟩ 0 := by
  show Rd w Bd A 0 c (dig 0)
  rw [dig_zero]
  exact Rd.empty _ _ _ hc
theorem Sm.mono {a b : Nat} (h : a ≤ b) (s : Sm b) : Sm a := Nat.lt_of_le_of_lt h s
/-- a number was handed back, in normal form; beside a bool -/
def RetC (w : World) (m : Nat) (e : Ending) (w' : World) : Prop := ∃ x : Nc, e = .returned (.slice x.A x.n x.c) ∧ Nn w' w'.heap.size x m ∧ Below w.heap.size w w'
def RetCB (w : World) (m : Nat) (ok : Bool) (e : Ending) (w' : World) : Prop := ∃ x : Nc, e = .returned (.tuple #[.slice x.A x.n x.c, .bool ok]) ∧ Nn w' w'.heap.size x m ∧ Below w.heap.size w w'
def RetCC (w : World) (a b : Nat) (e : Ending) (w' : World) : Prop := ∃ x y : Nc, e = .returned (.tuple #[.slice x.A x.n x.c, .slice y.A y.n y.c, .bool true]) ∧ Nn w' w'.heap.size x a ∧ Nn w' w'.heap.size y b ∧ Below w.heap.size w w'
theorem RetNat.c {w : World} {m : Nat} {e : Ending} {w' : World} (h : RetNat w m e w') : RetC w m e w' := by
  obtain ⟨A, c, h1, h2, h3⟩ := h; exact ⟨⟨A, _, c⟩, h1, h2, h3⟩
theorem RetNat2.c {w : World} {m : Nat} {ok : Bool} {e : Ending} {w' : World} (h : RetNat2 w m ok e w') : RetCB w m ok e w' := by
  obtain ⟨A, c, h1, h2, h3⟩ := h; exact ⟨⟨A, _, c⟩, h1, h2, h3⟩
theorem RetDM.c {w : World} {a b : Nat} {e : Ending} {w' : World} (h : RetDM w a b e w') : RetCC w (a / b) (a % b) e w' := by
  obtain ⟨A, c, B, d, h1, h2, h3, h4⟩ := h; exact ⟨⟨A, _, c⟩, ⟨B, _, d⟩, h1, h2, h3, h4⟩
theorem add_c {w : World} {Bd : Nat} {x y : Nc} {a b : Nat} (hx : Nv w Bd x a) (hy : Nv w Bd y b) (hB : Bd ≤ w.heap.size) {r : Nat} (hr : a + b = r) : Calls Try.prog 77 #[.slice x.A x.n x.c, .slice y.A y.n y.c] w (RetC w r) := by
  obtain ⟨xs, h1, h2, h3⟩ := hx
  obtain ⟨ys, k1, k2, k3⟩ := hy
  rw [← hr, ← h2, ← k2]
  exact (add_any w Bd _ _ _ _ _ _ xs ys h1 k1 hB (by omega) (by omega)).mono fun _ _ => RetNat.c
theorem mul_c {w : World} {Bd : Nat} {x y : Nc} {a b : Nat} (hx : Nv w Bd x a) (hy : Nv w Bd y b) (hB : Bd ≤ w.heap.size) {r : Nat} (hr : a * b = r) : Calls Try.prog 52 #[.slice x.A x.n x.c, .slice y.A y.n y.c] w (RetC w r) := by
  obtain ⟨xs, h1, h2, h3⟩ := hx
  obtain ⟨ys, k1, k2, k3⟩ := hy
  rw [← hr, ← h2, ← k2]
  exact (mul_any w Bd _ _ _ _ _ _ xs ys h1 k1 hB (by omega)).mono fun _ _ => RetNat.c
theorem sub_c {w : World} {Bd : Nat} {x y : Nc} {a b : Nat} (hx : Nv w Bd x a) (hy : Nv w Bd y b) (hB : Bd ≤ w.heap.size) {r : Nat} (hle : b ≤ a) (hr : a - b = r) : Calls Try.prog 79 #[.slice x.A x.n x.c, .slice y.A y.n y.c] w (RetCB w r true) := by
  obtain ⟨xs, h1, h2, h3⟩ := hx
  obtain ⟨ys, k1, k2, k3⟩ := hy
  rw [← hr, ← h2, ← k2]
  exact (sub_more w Bd _ _ _ _ _ _ xs ys h1 k1 hB (by rw [h2, k2]; exact hle)).mono fun _ _ => RetNat2.c
theorem divmod_c {w : World} {Bd : Nat} {x y : Nc} {a b : Nat} (hx : Nv w Bd x a) (hy : Nv w Bd y b) (hB : Bd ≤ w.heap.size) {q r : Nat} (h0 : b ≠ 0) (hq : a / b = q) (hr : a % b = r) : Calls Try.prog 87 #[.slice x.A x.n x.c, .slice y.A y.n y.c] w (RetCC w q r) := by
  obtain ⟨xs, h1, h2, h3⟩ := hx
  obtain ⟨ys, k1, k2, k3⟩ := hy
  rw [← hq, ← hr, ← h2, ← k2]
  exact (divmod_any w Bd _ _ _ _ _ _ xs ys h1 k1 hB (by omega) (by rw [k2]; exact h0)).mono fun _ _ => RetDM.c
theorem cmp_c {w : World} {Bd : Nat} {x y : Nc} {a b : Nat} (hx : Nv w Bd x a) (hy : Nv w Bd y b) {k : Int} (hr : cmpN a b = k) : Calls Try.prog 76 #[.slice x.A x.n x.c, .slice y.A y.n y.c] w (fun e w' => e = .returned (.int .i64 k) ∧ Below w.heap.size w w') := by
  obtain ⟨xs, h1, h2, h3⟩ := hx
  obtain ⟨ys, k1, k2, k3⟩ := hy
  exact (cmp_any w Bd _ _ _ _ _ _ xs ys h1 k1).mono fun e w' h => by
    obtain ⟨rfl, q, rfl⟩ := h
    exact ⟨by rw [h2, k2, hr], below_drewN (Below.refl _ _) q⟩
theorem norm_c {w : World} {Bd : Nat} {x : Nc} {a : Nat} (hx : Nv w Bd x a) (hB : Bd ≤ w.heap.size) : Calls Try.prog 111 #[.slice x.A x.n x.c] w (RetC w a) := by
  obtain ⟨xs, h1, h2, h3⟩ := hx
  rw [← h2]
  exact (norm_any w Bd _ _ _ xs h1 hB).mono fun _ _ h => RetNat.c (RetOwn.nat h)
theorem of_c {w : World} {m : Nat} (hm : m < 18446744073709551616) : Calls Try.prog 53 #[.int .u64 (m : Int)] w (RetC w m) := (of_any w m hm).mono fun _ _ => RetNat.c
theorem rmul_c {w : World} {Bd : Nat} {x y : Nc} {a b : Nat} (hx : Nv w Bd x a) (hy : Nv w Bd y b) (hB : Bd ≤ w.heap.size) {r : Nat} (hr : a * b = r) : Calls Try.prog 105 #[.slice x.A x.n x.c, .slice y.A y.n y.c] w (RetC w r) := by
  obtain ⟨xs, h1, h2, h3⟩ := hx
  obtain ⟨ys, k1, k2, k3⟩ := hy
  rw [← hr, ← h2, ← k2]
  exact (rmul_any w Bd _ _ _ _ _ _ xs ys h1 k1 hB (by omega)).mono fun _ _ => RetNat.c
theorem rsub_c {w : World} {Bd : Nat} {x y : Nc} {a b : Nat} (hx : Nv w Bd x a) (hy : Nv w Bd y b) (hB : Bd ≤ w.heap.size) {r : Nat} (hle : b ≤ a) (hr : a - b = r) : Calls Try.prog 137 #[.slice x.A x.n x.c, .slice y.A y.n y.c] w (RetCB w r true) := by
  obtain ⟨xs, h1, h2, h3⟩ := hx
  obtain ⟨ys, k1, k2, k3⟩ := hy
  rw [← hr, ← h2, ← k2]
  exact (rsub_more w Bd _ _ _ _ _ _ xs ys h1 k1 hB (by rw [h2, k2]; exact hle)).mono fun _ _ => RetNat2.c
theorem rdivmod_c {w : World} {Bd : Nat} {x y : Nc} {a b : Nat} (hx : Nv w Bd x a) (hy : Nv w Bd y b) (hB : Bd ≤ w.heap.size) {q r : Nat} (h0 : b ≠ 0) (hq : a / b = q) (hr : a % b = r) : Calls Try.prog 127 #[.slice x.A x.n x.c, .slice y.A y.n y.c] w (RetCC w q r) := by
  obtain ⟨xs, h1, h2, h3⟩ := hx
  obtain ⟨ys, k1, k2, k3⟩ := hy
  rw [← hq, ← hr, ← h2, ← k2]
  exact (rdivmod_any w Bd _ _ _ _ _ _ xs ys h1 k1 hB (by omega) (by rw [k2]; exact h0)).mono fun _ _ => RetDM.c
theorem rcmp_c {w : World} {Bd : Nat} {x y : Nc} {a b : Nat} (hx : Nv w Bd x a) (hy : Nv w Bd y b) {k : Int} (hr : cmpN a b = k) : Calls Try.prog 125 #[.slice x.A x.n x.c, .slice y.A y.n y.c] w (fun e w' => e = .returned (.int .i64 k) ∧ Below w.heap.size w w') := by
  obtain ⟨xs, h1, h2, h3⟩ := hx
  obtain ⟨ys, k1, k2, k3⟩ := hy
  exact (rcmp_any w Bd _ _ _ _ _ _ xs ys h1 k1).mono fun e w' h => by
    obtain ⟨rfl, rfl⟩ := h
    exact ⟨by rw [h2, k2, hr], Below.refl _ _⟩
theorem rnorm_c {w : World} {Bd : Nat} {x : Nc} {a : Nat} (hx : Nv w Bd x a) (hB : Bd ≤ w.heap.size) : Calls Try.prog 123 #[.slice x.A x.n x.c] w (RetC w a) := by
  obtain ⟨xs, h1, h2, h3⟩ := hx
  rw [← h2]
  exact (rnorm_any w Bd _ _ _ xs h1 hB).mono fun _ _ h => RetNat.c (RetOwn.nat h)
theorem rof_c {w : World} {m : Nat} (hm : m < 18446744073709551616) : Calls Try.prog 122 #[.int .u64 (m : Int)] w (RetC w m) := (rof_any w m hm).mono fun _ _ => RetNat.c
theorem bits_c {w : World} {Bd : Nat} {x : Nc} {a : Nat} (hx : Nv w Bd x a) : Calls Try.prog 90 #[.slice x.A x.n x.c] w (fun e w' => e = .returned (.int .i64 (bl a : Int)) ∧ Below w.heap.size w w') := by
  obtain ⟨xs, h1, h2, h3⟩ := hx
  rw [← h2]
  exact (bits_any w Bd _ _ _ xs h1).mono fun e w' h => ⟨h.1, by rw [← h.2]; exact Below.refl _ _⟩
end
end Go.Proofs.Ytdihgmbldnekhaa
