/-
  RRat3, RRat4, RRat5.
-/
import Derived.Test.YtonpeagedggakaaRRatA
namespace Go.Proofs.Ytonpeagedggakaa
section
open Go.RowKit


/-- a box that the region has made, not written yet -/
def XBox (W w' : World) (g : Nat) : Prop := Box w' g (.bool false) (.slice none 0 0) ∧ W.heap.size ≤ g
theorem Below.al_ {W w' : World} (h : Below W.heap.size W w') (o : Obj) : Below W.heap.size W (w'.alloc o) := h.alloc h.size o
theorem Below.al_then {w w' : World} {o : Obj} (h : Below (w.alloc o).heap.size (w.alloc o) w') : Below w.heap.size w w' := (Below.al_ (Below.refl _ _) o).trans (h.mono (by simp))
theorem Rd.al_ {w : World} {A : Option Addr} {n c : Nat} {xs : List Nat} {o : Obj} (h : Rd w w.heap.size A n c xs) : Rd (w.alloc o) (w.alloc o).heap.size A n c xs := h.then_ (Below.al_ (Below.refl _ _) o)
theorem XBox.made {W w w' : World} (h : Below W.heap.size W w) (hb : Below (w.alloc (.cells #[.bool false, .slice none 0 0] 35)).heap.size (w.alloc (.cells #[.bool false, .slice none 0 0] 35)) w') : XBox W w' w.heap.size :=
  ⟨Box.keep (Box.new w _ _ rfl) hb, h.size⟩
theorem Below.al_drew {W w' : World} (h : Below W.heap.size W w') (o : Obj) : Below W.heap.size W (w'.alloc o).drew := Below.al_ (w' := w'.drew) (h.trans ((Below.drw_ w').mono h.size)) o
theorem Below.al_then_drew {w w' : World} {o : Obj} (h : Below (w.alloc o).drew.heap.size (w.alloc o).drew w') : Below w.drew.heap.size w.drew w' := Below.al_then (w := w.drew) (o := o) h
theorem Rd.al_drew {w : World} {A : Option Addr} {n c : Nat} {xs : List Nat} {o : Obj} (h : Rd w.drew w.drew.heap.size A n c xs) : Rd (w.alloc o).drew (w.alloc o).drew.heap.size A n c xs := Rd.al_ (w := w.drew) (o := o) h
theorem XBox.made_drew {W w w' : World} (h : Below W.heap.size W w.drew) (hb : Below (w.alloc (.cells #[.bool false, .slice none 0 0] 35)).drew.heap.size (w.alloc (.cells #[.bool false, .slice none 0 0] 35)).drew w') : XBox W w' w.heap.size :=
  XBox.made (w := w.drew) h hb
theorem XBox.keep {W w w' : World} {g : Nat} (h : XBox W w g) (hb : Below w.heap.size w w') : XBox W w' g := ⟨Box.keep h.1 hb, h.2⟩
theorem XBox.facts {W w : World} {g : Nat} (h : XBox W w g) : w.cell? ⟨g, 0, none⟩ = some (.bool false) ∧ w.cell? ⟨g, 1, none⟩ = some (.slice none 0 0) ∧ w.frozen? ⟨g, 0, none⟩ = false ∧ w.frozen? ⟨g, 1, none⟩ = false ∧ g < w.heap.size :=
  box_kept_at h.1 h.1.lt_size (Nat.le_refl _) (Below.refl _ _)
/-- the box with the integer in it -/
def Landed (W w' : World) (g : Nat) (z : Int) (A : Option Addr) (c : Nat) : Prop :=
  Below W.heap.size W w' ∧ Box w' g (.bool (zneg z)) (.slice A (dig (zmag z)).length c) ∧ Rd w' w'.heap.size A (dig (zmag z)).length c (dig (zmag z)) ∧ W.heap.size ≤ g
theorem Landed.below {W w' : World} {g : Nat} {z : Int} {A : Option Addr} {c : Nat} (h : Landed W w' g z A c) : Below W.heap.size W w' := h.1
theorem landed_new {W w : World} {z : Int} {A : Option Addr} {c : Nat} (h : Below W.heap.size W w) (R : Rd w w.heap.size A (dig (zmag z)).length c (dig (zmag z))) :
    Landed W (w.alloc (.cells #[.bool (zneg z), .slice A (dig (zmag z)).length c] 35)) w.heap.size z A c := ⟨Below.al_ h _, Box.new w _ _ rfl, R.al_, h.size⟩
theorem landed_set {W w : World} {g : Nat} {z : Int} {A : Option Addr} {c : Nat} (h : Below W.heap.size W w) (R : Rd w w.heap.size A (dig (zmag z)).length c (dig (zmag z))) (X : XBox W w g) :
    Landed W ((w.setCell ⟨g, 0, none⟩ (.bool (zneg z))).setCell ⟨g, 1, none⟩ (.slice A (dig (zmag z)).length c)) g z A c := by
  obtain ⟨c0, c1, _, _, _⟩ := X.facts
  exact ⟨(h.setCell X.2 _).setCell X.2 _, Box.set X.1 _ _, by simpa using far2 c0 c1 _ _ R, X.2⟩
theorem landed_late {W w : World} {z : Int} {A : Option Addr} {c : Nat} (h : Below W.heap.size W w) (R : Rd w w.heap.size A (dig (zmag z)).length c (dig (zmag z))) :
    Landed W (((w.alloc (.cells #[.bool false, .slice none 0 0] 35)).setCell ⟨w.heap.size, 0, none⟩ (.bool (zneg z))).setCell ⟨w.heap.size, 1, none⟩ (.slice A (dig (zmag z)).length c)) w.heap.size z A c :=
  landed_set (Below.al_ h _) R.al_ ⟨Box.new w _ _ rfl, h.size⟩
/-- a box that the region has made, not written yet -/
def XBox3 (W w' : World) (g : Nat) : Prop := Box3 w' g (.bool false) (.slice none 0 0) (.slice none 0 0) ∧ W.heap.size ≤ g
theorem XBox3.made {W w w' : World} (h : Below W.heap.size W w) (hb : Below (w.alloc (.cells #[.bool false, .slice none 0 0, .slice none 0 0] 37)).heap.size (w.alloc (.cells #[.bool false, .slice none 0 0, .slice none 0 0] 37)) w') : XBox3 W w' w.heap.size :=
  ⟨Box3.keep (Box3.new w _ _ _ rfl) hb, h.size⟩
theorem XBox3.made_drew {W w w' : World} (h : Below W.heap.size W w.drew) (hb : Below (w.alloc (.cells #[.bool false, .slice none 0 0, .slice none 0 0] 37)).drew.heap.size (w.alloc (.cells #[.bool false, .slice none 0 0, .slice none 0 0] 37)).drew w') : XBox3 W w' w.heap.size :=
  XBox3.made (w := w.drew) h hb
theorem XBox3.keep {W w w' : World} {g : Nat} (h : XBox3 W w g) (hb : Below w.heap.size w w') : XBox3 W w' g := ⟨Box3.keep h.1 hb, h.2⟩
theorem XBox3.facts {W w : World} {g : Nat} (h : XBox3 W w g) : w.cell? ⟨g, 0, none⟩ = some (.bool false) ∧ w.cell? ⟨g, 1, none⟩ = some (.slice none 0 0) ∧ w.cell? ⟨g, 2, none⟩ = some (.slice none 0 0) ∧ w.frozen? ⟨g, 0, none⟩ = false ∧ w.frozen? ⟨g, 1, none⟩ = false ∧ w.frozen? ⟨g, 2, none⟩ = false ∧ g < w.heap.size :=
  box3_kept_at h.1 h.1.lt_size (Nat.le_refl _) (Below.refl _ _)
/-- the box with the integer in it -/
def Landed3 (W w' : World) (g : Nat) (z : Int) (A : Option Addr) (c : Nat) (B : Option Addr) (m d : Nat) : Prop :=
  Below W.heap.size W w' ∧ Box3 w' g (.bool (zneg z)) (.slice A (dig (zmag z)).length c) (.slice B m d) ∧ Rd w' w'.heap.size A (dig (zmag z)).length c (dig (zmag z)) ∧ W.heap.size ≤ g
theorem Landed3.below {W w' : World} {g : Nat} {z : Int} {A B : Option Addr} {c m d : Nat} (h : Landed3 W w' g z A c B m d) : Below W.heap.size W w' := h.1
theorem landed3_new {W w : World} {z : Int} {A B : Option Addr} {c m d : Nat} (h : Below W.heap.size W w) (R : Rd w w.heap.size A (dig (zmag z)).length c (dig (zmag z))) :
    Landed3 W (w.alloc (.cells #[.bool (zneg z), .slice A (dig (zmag z)).length c, .slice B m d] 37)) w.heap.size z A c B m d := ⟨Below.al_ h _, Box3.new w _ _ _ rfl, R.al_, h.size⟩
theorem landed3_set {W w : World} {g : Nat} {z : Int} {A B : Option Addr} {c m d : Nat} (h : Below W.heap.size W w) (R : Rd w w.heap.size A (dig (zmag z)).length c (dig (zmag z))) (X : XBox3 W w g) :
    Landed3 W (((w.setCell ⟨g, 0, none⟩ (.bool (zneg z))).setCell ⟨g, 1, none⟩ (.slice A (dig (zmag z)).length c)).setCell ⟨g, 2, none⟩ (.slice B m d)) g z A c B m d := by
  obtain ⟨c0, c1, c2, _, _, _, _⟩ := X.facts
  exact ⟨((h.setCell X.2 _).setCell X.2 _).setCell X.2 _, Box3.set X.1 _ _ _, by simpa using far3 c0 c1 c2 _ _ _ R, X.2⟩
theorem landed3_late {W w : World} {z : Int} {A B : Option Addr} {c m d : Nat} (h : Below W.heap.size W w) (R : Rd w w.heap.size A (dig (zmag z)).length c (dig (zmag z))) :
    Landed3 W ((((w.alloc (.cells #[.bool false, .slice none 0 0, .slice none 0 0] 37)).setCell ⟨w.heap.size, 0, none⟩ (.bool (zneg z))).setCell ⟨w.heap.size, 1, none⟩ (.slice A (dig (zmag z)).length c)).setCell ⟨w.heap.size, 2, none⟩ (.slice B m d)) w.heap.size z A c B m d :=
  landed3_set (Below.al_ h _) R.al_ ⟨Box3.new w _ _ _ rfl, h.size⟩

end

section
open Go.RowKit


theorem neg_len {s : Bool} {m d : Nat} {p : Rat} (h : -qv s m d = p) {i j : Nat} (hm : m < pw i) (hd : d < pw j) : (dig (zmag p.num)).length ≤ i ∧ (dig p.den).length ≤ max j 1 := by
  by_cases h0 : d = 0
  · subst h0; rw [qv_zero] at h; subst h
    rw [show (-0 : Rat).num = 0 from rfl, show (-0 : Rat).den = 1 from rfl, show zmag 0 = 0 from rfl, dig_zero, dig_one]
    exact ⟨Nat.zero_le _, by simp only [List.length_cons, List.length_nil]; omega⟩
  · have h1 : p = qv (!s) m d := by rw [← h]; unfold qv; rw [mk_neg, iv_not]
    subst h1
    rw [qv_num _ _ h0, qv_den _ _ h0, zmag_iv]
    exact ⟨dl (Nat.lt_of_le_of_lt (Nat.div_le_self _ _) hm), Nat.le_trans (dl (Nat.lt_of_le_of_lt (Nat.div_le_self _ _) hd)) (Nat.le_max_left _ _)⟩
theorem mul_inverse (q : Rat) {x : Int} {d : Nat} (_hx : x ≠ 0) (_hd : d ≠ 0) : q * mkRat (iv (zneg x) d) (zmag x) = q / mkRat x d := by
  rw [Rat.div_def]
  congr 1
  rw [← Rat.divInt_ofNat x d, Rat.inv_divInt]
  unfold zmag zneg
  by_cases h : x < 0
  · rw [decide_eq_true h, iv_true, ← Rat.divInt_ofNat, show ((x.natAbs : Nat) : Int) = -x by omega, Rat.neg_divInt_neg]
  · rw [decide_eq_false h, iv_false, ← Rat.divInt_ofNat, show ((x.natAbs : Nat) : Int) = x by omega]

end

section
open Go.RowKit


end
end Go.Proofs.Ytonpeagedggakaa
