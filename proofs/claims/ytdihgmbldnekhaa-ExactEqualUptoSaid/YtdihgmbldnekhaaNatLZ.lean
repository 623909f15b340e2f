/-
  NatL, NatZ.
-/
import Derived.Test.YtdihgmbldnekhaaRatN
import Derived.Test.YtdihgmbldnekhaaNatGcd
import Derived.Test.YtdihgmbldnekhaaNatBits
import Derived.Test.YtdihgmbldnekhaaPow
namespace Go.Proofs.Ytdihgmbldnekhaa
section
open Go.RowKit Go.Builtin

def AtN (w : World) (ad : Addr) (i : Nat) (x : Nc) : Prop := w.cell? (ad.add i) = some (.slice x.A x.n x.c)
/-- the slice reads as n numbers -/
structure LN (w : World) (Bd : Nat) (A : Option Addr) (n c : Nat) (X : Nat → Nc) (q : Nat → Nat) : Prop where
  cap : n ≤ c
  cbig : c ≤ 9223372036854775807
  cells : 0 < n → ∃ ad, A = some ad ∧ ad.block < Bd ∧ ∀ i, i < n → AtN w ad i (X i)
  nums : ∀ i, i < n → Nn w Bd (X i) (q i)
theorem AtN.keep {w w' : World} {Bd : Nat} {ad : Addr} {i : Nat} {x : Nc} (h : AtN w ad i x) (hb : Below Bd w w') (ha : ad.block < Bd) : AtN w' ad i x := (hb.cell (by rw [block_add]; exact ha)).trans h
theorem LN.upto {w w' : World} {Bd n c : Nat} {A : Option Addr} {X : Nat → Nc} {q : Nat → Nat} (h : LN w Bd A n c X q) (hb : Below w.heap.size w w') (hB : Bd ≤ w.heap.size) : LN w' w'.heap.size A n c X q :=
  ⟨h.cap, h.cbig, fun hn => by
    obtain ⟨ad, e, ha, hi⟩ := h.cells hn
    exact ⟨ad, e, Nat.lt_of_lt_of_le ha (Nat.le_trans hB hb.size), fun i hin => (hi i hin).keep hb (by omega)⟩, fun i hi => (h.nums i hi).upto hb hB⟩
theorem LN.then_ {w w' : World} {n c : Nat} {A : Option Addr} {X : Nat → Nc} {q : Nat → Nat} (h : LN w w.heap.size A n c X q) (hb : Below w.heap.size w w') : LN w' w'.heap.size A n c X q := h.upto hb (Nat.le_refl _)
theorem LN.empty (w : World) (Bd : Nat) (A : Option Addr) {c : Nat} (hc : c ≤ 9223372036854775807) (X : Nat → Nc) (q : Nat → Nat) : LN w Bd A 0 c X q := ⟨Nat.zero_le _, hc, fun h => absurd h (by omega), fun i hi => by omega⟩
/-- element i, as the walk reads it -/
theorem LN.at_ {w : World} {Bd n c : Nat} {A : Option Addr} {X : Nat → Nc} {q : Nat → Nat} (h : LN w Bd A n c X q) {i : Nat} (hi : i < n) : ∃ ad, A = some ad ∧ ad.block < Bd ∧ w.cell? (ad.add i) = some (.slice (X i).A (X i).n (X i).c) := by
  obtain ⟨ad, e, hb, hc⟩ := h.cells (by omega)
  exact ⟨ad, e, hb, hc i hi⟩
theorem LN.congr {w : World} {Bd n c : Nat} {A : Option Addr} {X : Nat → Nc} {q r : Nat → Nat} (h : LN w Bd A n c X q) (e : ∀ i, i < n → q i = r i) : LN w Bd A n c X r :=
  ⟨h.cap, h.cbig, h.cells, fun i hi => by rw [← e i hi]; exact h.nums i hi⟩
theorem LN.drop {w : World} {Bd n c : Nat} {ad : Addr} {X : Nat → Nc} {q : Nat → Nat} (h : LN w Bd (some ad) n c X q) (k : Nat) (_hk : k ≤ n) : LN w Bd (some (ad.add k)) (n - k) (c - k) (fun i => X (k + i)) (fun i => q (k + i)) :=
  ⟨by have := h.cap; omega, by have := h.cbig; omega, fun hn => by
    obtain ⟨ad', e, ha, hi⟩ := h.cells (by omega)
    simp only [Option.some.injEq] at e
    subst e
    refine ⟨_, rfl, by rw [block_add]; exact ha, fun i hin => ?_⟩
    show w.cell? _ = _
    rw [add_add_]
    exact hi (k + i) (by omega), fun i hi => h.nums (k + i) (by omega)⟩
theorem LN.take {w : World} {Bd n c : Nat} {A : Option Addr} {X : Nat → Nc} {q : Nat → Nat} (h : LN w Bd A n c X q) {k : Nat} (hk : k ≤ n) : LN w Bd A k c X q :=
  ⟨by have := h.cap; omega, h.cbig, fun hn => by
    obtain ⟨ad, e, ha, hi⟩ := h.cells (by omega)
    exact ⟨ad, e, ha, fun i hin => hi i (by omega)⟩, fun i hi => h.nums i (by omega)⟩
/-- the cells of the first n elements -/
def cellsN (X : Nat → Nc) (n : Nat) : List Value := (List.range n).map fun i => Value.slice (X i).A (X i).n (X i).c
theorem cellsN_length (X : Nat → Nc) (n : Nat) : (cellsN X n).length = n := by simp [cellsN]
theorem cellsN_at (X : Nat → Nc) {n i : Nat} (h : i < n) : (cellsN X n)[i]? = some (.slice (X i).A (X i).n (X i).c) := by simp [cellsN, h]
theorem cellsN_some {X : Nat → Nc} {n j : Nat} {u : Value} (h : (cellsN X n)[j]? = some u) : j < n ∧ u = .slice (X j).A (X j).n (X j).c := by
  have hj := (List.getElem?_eq_some_iff.1 h).1
  rw [cellsN_length] at hj
  rw [cellsN_at X hj] at h
  exact ⟨hj, by simpa using h.symm⟩
theorem cellsN_congr {X Y : Nat → Nc} {n : Nat} (h : ∀ i, i < n → X i = Y i) : cellsN X n = cellsN Y n := List.map_congr_left fun i hi => by rw [h i (List.mem_range.1 hi)]
/-- v is a list of the call's own: nil, or a block from number B on, without a limb -/
def OwnN (w : World) (B : Nat) (v : Value) (n : Nat) (X : Nat → Nc) (q : Nat → Nat) : Prop :=
  w.ownsRow B 23 1 v n (cellsN X n) ∧ (∀ g, v.ownBlock = some g → ∃ cur, w.heap[g]? = some (.cells cur 23 (0, 0)) ∧ ∀ (j : Nat) u, cur[j]? = some u → NoU u) ∧ ∀ i, i < n → Nn w w.heap.size (X i) (q i)
theorem OwnN.lt {w : World} {B n : Nat} {v : Value} {X : Nat → Nc} {q : Nat → Nat} (h : OwnN w B v n X q) {g : Nat} (hg : v.ownBlock = some g) : B ≤ g ∧ g < w.heap.size := h.1.lt g hg
theorem OwnN.then_ {w w' : World} {B n : Nat} {v : Value} {X : Nat → Nc} {q : Nat → Nat} (h : OwnN w B v n X q) (hb : Below w.heap.size w w') : OwnN w' B v n X q :=
  ⟨ownsRow_block h.1 fun g hg => hb.block g (h.lt hg).2, fun g hg => by
    obtain ⟨cur, h1, h2⟩ := h.2.1 g hg
    exact ⟨cur, (hb.block g (h.lt hg).2).trans h1, h2⟩, fun i hi => (h.2.2 i hi).then_ hb⟩
theorem OwnN.noU {w : World} {B n : Nat} {v : Value} {X : Nat → Nc} {q : Nat → Nat} (h : OwnN w B v n X q) : ∀ g, v.ownBlock = some g → ∃ cur t z, w.heap[g]? = some (.cells cur t z) ∧ ∀ (j : Nat) u, cur[j]? = some u → NoU u := fun g hg => by
  obtain ⟨cur, h1, h2⟩ := h.2.1 g hg
  exact ⟨cur, _, _, h1, h2⟩
theorem Nn.grownN {w w' : World} {m : Nat} {x : Nc} {row : Option Nat} (hx : Nn w w.heap.size x m) (h : ∀ g, row = some g → ∃ cur t z, w.heap[g]? = some (.cells cur t z) ∧ ∀ (j : Nat) u, cur[j]? = some u → NoU u) (hg : w.grownBy w' row) : Nn w' w'.heap.size x m := Rd.grownQ hx h hg
/-- the finished list is read -/
theorem OwnN.rd {w : World} {B n : Nat} {v : Value} {X : Nat → Nc} {q : Nat → Nat} (h : OwnN w B v n X q) : ∃ A c, v = .slice A n c ∧ LN w w.heap.size A n c X q := by
  rcases h.1.2 with ⟨rfl, rfl⟩ | ⟨g, cap, cur, rfl, hB, hgg, h1, h2, h3, h4⟩
  · exact ⟨_, _, rfl, LN.empty _ _ _ (by omega) _ _⟩
  · refine ⟨_, _, rfl, h1, by simp only [maxLen] at h2; omega, fun _ => ⟨_, rfl, (Array.getElem?_eq_some_iff.1 hgg).1, fun i hi => ?_⟩, h.2.2⟩
    exact h.1.cells (g := g) rfl _ _ (cellsN_at X hi)
theorem OwnN.read {w : World} {B n g c : Nat} {X : Nat → Nc} {q : Nat → Nat} (h : OwnN w B (.slice (some ⟨g, 0, none⟩) n c) n X q) : LN w w.heap.size (some ⟨g, 0, none⟩) n c X q := by
  obtain ⟨A, c', e, h1⟩ := h.rd
  simp only [Value.slice.injEq, true_and] at e
  obtain ⟨rfl, rfl⟩ := e
  exact h1
theorem OwnN.congr {w : World} {B n : Nat} {v : Value} {X : Nat → Nc} {q r : Nat → Nat} (h : OwnN w B v n X q) (e : ∀ i, i < n → q i = r i) : OwnN w B v n X r := ⟨h.1, h.2.1, fun i hi => by rw [← e i hi]; exact h.2.2 i hi⟩
/-- beside a store: old memory -/
theorem OwnN.below {w w' w0 : World} {B n : Nat} {v : Value} {X : Nat → Nc} {q : Nat → Nat} (h : OwnN w B v n X q) (hg : w.grownBy w' v.ownBlock) (hb : Below B w0 w) (hB : B ≤ w.heap.size) : Below B w0 w' :=
  hb.grown hg hB fun _ hk => (h.lt hk).1
/-- the world behind 'parts[k] = x' -/
def setN (w : World) (g k : Nat) (x : Nc) : World := w.setCell ⟨g, k, none⟩ (.slice x.A x.n x.c)
theorem setN_grown (w : World) (g k : Nat) (x : Nc) : w.grownBy (setN w g k x) (some g) :=
  have h : Below 0 w (setN w g k x) := (Below.refl 0 w).setCell (Nat.zero_le _) _
  ⟨h.os, h.tape, h.output, h.size, fun j _ hj => Below.heap_setCell _ _ _ _ fun e => hj (by rw [e])⟩
theorem cellsN_upd {X : Nat → Nc} {n k : Nat} {x : Nc} (_hk : k < n) : cellsN (upd X k x) n = (cellsN X n).set k (.slice x.A x.n x.c) := by
  refine List.ext_getElem? fun j => ?_
  by_cases hj : j < n
  · rw [cellsN_at _ hj]
    by_cases e : j = k
    · subst e; rw [upd_same, List.getElem?_set_self (by simpa [cellsN] using hj)]
    · rw [upd_ne e, List.getElem?_set_ne (by omega), cellsN_at _ hj]
  · rw [List.getElem?_eq_none (by simp [cellsN]; omega), List.getElem?_eq_none (by simp [cellsN]; omega)]
theorem OwnN.set {w : World} {B n c g k : Nat} {X : Nat → Nc} {q : Nat → Nat} (h : OwnN w B (.slice (some ⟨g, 0, none⟩) n c) n X q) (hk : k < n) {x : Nc} {r : Nat} (hx : Nn w w.heap.size x r) :
    OwnN (setN w g k x) B (.slice (some ⟨g, 0, none⟩) n c) n (upd X k x) (upd q k r) := by
  have hg := setN_grown w g k x
  obtain ⟨cur, h0, hc⟩ := h.2.1 g rfl
  have hw : (setN w g k x).heap[g]? = some (.cells (cur.setIfInBounds k (.slice x.A x.n x.c)) 23 (0, 0)) := heap_setCell_same w g _ _ _ _ h0
  refine ⟨⟨by rw [cellsN_length, Nat.mul_one], ?_⟩, fun g' hg' => ?_, fun i hi => ?_⟩
  · rcases h.1.2 with ⟨h, _⟩ | ⟨g', cap, cur', hv, hB, hgg, q1, q2, q3, q4⟩
    · simp at h
    · simp only [Value.slice.injEq, Option.some.injEq, Addr.mk.injEq, and_true, true_and] at hv
      obtain ⟨rfl, rfl⟩ := hv
      rw [h0] at hgg
      simp only [Option.some.injEq, Obj.cells.injEq, and_true] at hgg
      subst hgg
      refine .inr ⟨g, c, _, rfl, hB, hw, q1, q2, by simpa using q3, ?_⟩
      simp only [Array.toList_setIfInBounds]
      rw [cellsN_upd hk, List.take_set, q4]
  · simp only [Value.ownBlock, Option.some.injEq] at hg'
    subst hg'
    refine ⟨_, hw, fun j u hu => ?_⟩
    rw [Array.getElem?_setIfInBounds] at hu
    split at hu
    · split at hu
      · simp only [Option.some.injEq] at hu; subst hu; exact fun x e => by cases e
      · cases hu
    exact hc _ _ hu
  · by_cases e : i = k
    · subst e
      rw [upd_same, upd_same]
      exact hx.grownN h.noU hg
    · rw [upd_ne e, upd_ne e]
      exact (h.2.2 i hi).grownN h.noU hg
/-- element k, as the walk reads and writes it -/
theorem OwnN.cell {w : World} {B n c g k : Nat} {X : Nat → Nc} {q : Nat → Nat} (h : OwnN w B (.slice (some ⟨g, 0, none⟩) n c) n X q) (hk : k < n) : w.cell? ⟨g, k, none⟩ = some (.slice (X k).A (X k).n (X k).c) := by
  have e := h.1.cells (g := g) rfl _ _ (cellsN_at X hk)
  rwa [Addr.add_lit, Nat.zero_add] at e
theorem OwnN.frozen {w : World} {B n c g : Nat} {X : Nat → Nc} {q : Nat → Nat} (h : OwnN w B (.slice (some ⟨g, 0, none⟩) n c) n X q) (j : Nat) : w.frozen? ⟨g, j, none⟩ = false := by
  obtain ⟨cur, hg, _⟩ := h.2.1 g rfl
  exact frozen_of_row w g j cur _ hg
theorem OwnN.block {w : World} {B n c g : Nat} {X : Nat → Nc} {q : Nat → Nat} (h : OwnN w B (.slice (some ⟨g, 0, none⟩) n c) n X q) : B ≤ g ∧ g < w.heap.size := h.lt rfl
def zeroNc : Nc := ⟨none, 0, 0⟩
theorem cellsN_zero (n : Nat) : cellsN (fun _ => zeroNc) n = (madeCells (Value.slice none 0 0).cells n).toList := by
  refine List.ext_getElem? fun j => ?_
  by_cases hj : j < n
  · rw [cellsN_at _ hj]
    simp [madeCells, Value.cells, hj, zeroNc, Nat.mod_one]
  · rw [List.getElem?_eq_none (by simp [cellsN]; omega), List.getElem?_eq_none (by simp [madeCells]; omega)]
theorem Try.infoNat : (Try.prog.info? 23).map (fun i => (i.zero, i.size, i.bytes)) = some (some (.slice none 0 0), 1, 24) := by kernel_rfl
/-- 'make([]api.Nat, n)' -/
theorem wpList_make_nats {ops : Array Oper} {rest : List Oper} {o : Oper} {a : Act} {Q : Exit → Act → World → Prop} {w : World} (hg : o.guard = none) (l c : Operand) (hop : o.op = Op.makeSlice 82 l c)
    (kl kc : IntKind) (M C : Int) (n : Nat) (hl : a.eval l = .int kl M) (hc : a.eval c = .int kc C) (hM : M = (n : Int)) (hC : C = (n : Int)) (hn : n ≤ 1000000000) (B : Nat) (hB : B ≤ w.heap.size)
    (hK : ∀ w1, OwnN w1 B (.slice (some ⟨w.heap.size, 0, none⟩) n n) n (fun _ => zeroNc) (fun _ => 0) → Below w.heap.size w w1 → wpList Try.prog ops Q rest (a.put o.dst (.slice (some ⟨w.heap.size, 0, none⟩) n n)) w1) : wpList Try.prog ops Q (o :: rest) a w := by
  obtain ⟨i0, hi, hz0, hz1, hz2⟩ := info_parts Try.infoNat
  subst hM hC
  refine wpList_plain hg fun K hK' => ?_
  have hr := run_make (P := Try.prog) w 82 23 i0 (.slice none 0 0) Try.underlying82 hi hz0 kl kc n n (by omega) (Int.le_refl _) (by rw [hz2]; omega) (by omega)
  simp only [Int.toNat_natCast, hz1, Nat.mul_one] at hr
  unfold Oper.wp
  simp [execOp, hop, hl, hc, hr, Result.andThen]
  refine hK' _ _ (hK _ ⟨⟨by rw [cellsN_length, Nat.mul_one], .inr ⟨w.heap.size, n, _, rfl, hB, heap_alloc_new w _, Nat.le_refl _, by simp only [maxLen]; omega, by rw [size_madeCells]; omega, ?_⟩⟩, fun g hg => ?_, fun i _ => Nn.zero _ _ (by omega) _⟩ ((Below.refl _ _).alloc (Nat.le_refl _) _))
  · rw [cellsN_zero, List.take_of_length_le (by simp [madeCells])]
  · simp only [Value.ownBlock, Option.some.injEq] at hg
    subst hg
    refine ⟨_, heap_alloc_new w _, fun j u hu => ?_⟩
    have hu' : (cellsN (fun _ => zeroNc) n)[j]? = some u := by rw [cellsN_zero]; simpa using hu
    obtain ⟨_, rfl⟩ := cellsN_some hu'
    exact fun x e => by cases e
/-- '[]api.Nat{x}', '[]api.Nat{x, y}' -/
theorem ln_one {w : World} {x : Nc} {p : Nat} (hx : Nn w w.heap.size x p) :
    LN (w.alloc (.cells #[.slice x.A x.n x.c] 23)) (w.alloc (.cells #[.slice x.A x.n x.c] 23)).heap.size (some ⟨w.heap.size, 0, none⟩) 1 1 (fun _ => x) (fun _ => p) := by
  refine ⟨Nat.le_refl _, by omega, fun _ => ⟨_, rfl, by simp, fun i hi => ?_⟩, fun i hi => hx.then_ ((Below.refl _ _).alloc (Nat.le_refl _) _)⟩
  have hc : ∀ j, (w.alloc (.cells #[.slice x.A x.n x.c] 23)).cell? ⟨w.heap.size, j, none⟩ = #[Value.slice x.A x.n x.c][j]? := fun j => cell_of_row _ _ j _ _ (0, 0) (heap_alloc_new w _)
  obtain rfl : i = 0 := by omega
  show World.cell? _ _ = _
  rw [Addr.add_lit, hc]; rfl
theorem ln_two {w : World} {x y : Nc} {p q : Nat} (hx : Nn w w.heap.size x p) (hy : Nn w w.heap.size y q) :
    LN (w.alloc (.cells #[.slice x.A x.n x.c, .slice y.A y.n y.c] 23)) (w.alloc (.cells #[.slice x.A x.n x.c, .slice y.A y.n y.c] 23)).heap.size (some ⟨w.heap.size, 0, none⟩) 2 2 (fun i => if i = 0 then x else y) (fun i => if i = 0 then p else q) := by
  refine ⟨Nat.le_refl _, by omega, fun _ => ⟨_, rfl, by simp, fun i hi => ?_⟩, fun i hi => ?_⟩
  · have hc : ∀ j, (w.alloc (.cells #[.slice x.A x.n x.c, .slice y.A y.n y.c] 23)).cell? ⟨w.heap.size, j, none⟩ = #[Value.slice x.A x.n x.c, .slice y.A y.n y.c][j]? := fun j => cell_of_row _ _ j _ _ (0, 0) (heap_alloc_new w _)
    rcases (by omega : i = 0 ∨ i = 1) with rfl | rfl
    · show World.cell? _ _ = _
      rw [Addr.add_lit, hc]; rfl
    · show World.cell? _ _ = _
      rw [Addr.add_lit, hc]; rfl
  · rcases (by omega : i = 0 ∨ i = 1) with rfl | rfl
    · exact hx.then_ ((Below.refl _ _).alloc (Nat.le_refl _) _)
    · exact hy.then_ ((Below.refl _ _).alloc (Nat.le_refl _) _)
end

section
open Go.RowKit

def Lg (m : Nat) : Prop := m < pw 1000000000
/-- it reads as m, in any form -/
def Nz (w : World) (Bd : Nat) (x : Nc) (m : Nat) : Prop := ∃ xs, Rd w Bd x.A x.n x.c xs ∧ val xs = m ∧ x.n ≤ 1000000000
theorem Nn.nz {w : World} {Bd : Nat} {x : Nc} {m : Nat} (h : Nn w Bd x m) (s : Lg m) : Nz w Bd x m := ⟨dig m, h, val_dig m, by rw [← (show Rd w Bd x.A x.n x.c (dig m) from h).len]; exact (dig_len_le _ _).2 s⟩
theorem Nz.then_ {w w' : World} {x : Nc} {m : Nat} (h : Nz w w.heap.size x m) (hb : Below w.heap.size w w') : Nz w' w'.heap.size x m := by
  obtain ⟨xs, h1, h2⟩ := h; exact ⟨xs, h1.then_ hb, h2⟩
theorem Nz.upto {w w' : World} {Bd : Nat} {x : Nc} {m : Nat} (h : Nz w Bd x m) (hb : Below w.heap.size w w') (hB : Bd ≤ w.heap.size) : Nz w' w'.heap.size x m := by
  obtain ⟨xs, h1, h2⟩ := h; exact ⟨xs, h1.upto hb hB, h2⟩
theorem Lg.mono {a b : Nat} (h : a ≤ b) (s : Lg b) : Lg a := Nat.lt_of_le_of_lt h s
theorem Lg.pw {m k : Nat} (h : m < pw k) (hk : k ≤ 1000000000) : Lg m := pw_le hk h
/-- a quotient was handed back, beside what nobody reads -/
def RetCQ (w : World) (q : Nat) (e : Ending) (w' : World) : Prop := ∃ (x y : Nc) (ok : Bool), e = .returned (.tuple #[.slice x.A x.n x.c, .slice y.A y.n y.c, .bool ok]) ∧ Nn w' w'.heap.size x q ∧ Below w.heap.size w w'
theorem add_z {w : World} {Bd : Nat} {x y : Nc} {a b : Nat} (hx : Nz w Bd x a) (hy : Nz w Bd y b) (hB : Bd ≤ w.heap.size) {r : Nat} (hr : a + b = r) : Calls Try.prog 77 #[.slice x.A x.n x.c, .slice y.A y.n y.c] w (RetC w r) := by
  obtain ⟨xs, h1, h2, h3⟩ := hx
  obtain ⟨ys, k1, k2, k3⟩ := hy
  rw [← hr, ← h2, ← k2]
  exact (add_any w Bd _ _ _ _ _ _ xs ys h1 k1 hB (by omega) (by omega)).mono fun _ _ => RetNat.c
theorem mul_z {w : World} {Bd : Nat} {x y : Nc} {a b : Nat} (hx : Nz w Bd x a) (hy : Nz w Bd y b) (hB : Bd ≤ w.heap.size) {r : Nat} (hr : a * b = r) : Calls Try.prog 52 #[.slice x.A x.n x.c, .slice y.A y.n y.c] w (RetC w r) := by
  obtain ⟨xs, h1, h2, h3⟩ := hx
  obtain ⟨ys, k1, k2, k3⟩ := hy
  rw [← hr, ← h2, ← k2]
  exact (mul_any w Bd _ _ _ _ _ _ xs ys h1 k1 hB (by omega)).mono fun _ _ => RetNat.c
theorem sub_z {w : World} {Bd : Nat} {x y : Nc} {a b : Nat} (hx : Nz w Bd x a) (hy : Nz w Bd y b) (hB : Bd ≤ w.heap.size) {r : Nat} (hle : b ≤ a) (hr : a - b = r) : Calls Try.prog 79 #[.slice x.A x.n x.c, .slice y.A y.n y.c] w (RetCB w r true) := by
  obtain ⟨xs, h1, h2, h3⟩ := hx
  obtain ⟨ys, k1, k2, k3⟩ := hy
  rw [← hr, ← h2, ← k2]
  exact (sub_more w Bd _ _ _ _ _ _ xs ys h1 k1 hB (by rw [h2, k2]; exact hle)).mono fun _ _ => RetNat2.c
theorem quo_z {w : World} {Bd : Nat} {x y : Nc} {a b : Nat} (hx : Nz w Bd x a) (hy : Nz w Bd y b) (hB : Bd ≤ w.heap.size) {q : Nat} (hq : a / b = q) : Calls Try.prog 87 #[.slice x.A x.n x.c, .slice y.A y.n y.c] w (RetCQ w q) := by
  obtain ⟨xs, h1, h2, h3⟩ := hx
  obtain ⟨ys, k1, k2, k3⟩ := hy
  by_cases h0 : b = 0
  · refine (divmod_zero w Bd _ _ _ _ _ _ xs ys h1 k1 (by rw [k2]; exact h0)).mono ?_
    rintro e w' ⟨rfl, rfl⟩
    refine ⟨⟨none, 0, 0⟩, ⟨none, 0, 0⟩, false, rfl, ?_, Below.refl _ _⟩
    rw [← hq, h0, Nat.div_zero]
    exact Nn.zero _ _ (by omega) _
  · rw [← hq, ← h2, ← k2]
    refine (divmod_any w Bd _ _ _ _ _ _ xs ys h1 k1 hB (by omega) (by rw [k2]; exact h0)).mono ?_
    rintro e w' ⟨A, c, B, d, h1, h2, h3, h4⟩
    exact ⟨⟨A, _, c⟩, ⟨B, _, d⟩, true, h1, h2, h4⟩
theorem gcd_z {w : World} {Bd : Nat} {x y : Nc} {a b : Nat} (hx : Nz w Bd x a) (hy : Nz w Bd y b) (hB : Bd ≤ w.heap.size) {r : Nat} (hr : Nat.gcd a b = r) : Calls Try.prog 92 #[.slice x.A x.n x.c, .slice y.A y.n y.c] w (RetC w r) := by
  obtain ⟨xs, h1, h2, h3⟩ := hx
  obtain ⟨ys, k1, k2, k3⟩ := hy
  rw [← hr, ← h2, ← k2]
  exact (gcd_any w Bd _ _ _ _ _ _ xs ys h1 k1 hB (by omega) (by omega)).mono fun _ _ => RetNat.c
theorem cmp_z {w : World} {Bd : Nat} {x y : Nc} {a b : Nat} (hx : Nz w Bd x a) (hy : Nz w Bd y b) {k : Int} (hr : cmpN a b = k) : Calls Try.prog 76 #[.slice x.A x.n x.c, .slice y.A y.n y.c] w (RetB w (.int .i64 k)) := by
  obtain ⟨xs, h1, h2, h3⟩ := hx
  obtain ⟨ys, k1, k2, k3⟩ := hy
  exact (cmp_any w Bd _ _ _ _ _ _ xs ys h1 k1).mono fun e w' h => by
    obtain ⟨rfl, q, rfl⟩ := h
    exact ⟨by rw [h2, k2, hr], below_drewN (Below.refl _ _) q⟩
theorem pow_z {w : World} {Bd : Nat} {x : Nc} {a : Nat} (hx : Nz w Bd x a) (hB : Bd ≤ w.heap.size) {z : Int} {k : Nat} (hz : z = (k : Int)) (hk : k ≤ 512) {r : Nat} (hr : a ^ k = r) : Calls Try.prog 80 #[.slice x.A x.n x.c, .int .i64 z] w (RetCB w r true) := by
  obtain ⟨xs, h1, h2, h3⟩ := hx
  rw [← hr, ← h2, hz]
  exact (pow_any w Bd _ _ _ xs h1 hB (by omega) k hk).mono fun _ _ => RetNat2.c
/-- the parts of a ratio -/
theorem Rq.parts {w : World} {Bd L : Nat} {x : Rc} {q : Rat} (h : Rq w Bd L x q) (hL : L ≤ 1000000000) : ∃ a b : Nat, Nz w Bd ⟨x.A, x.n, x.c⟩ a ∧ Nz w Bd ⟨x.B, x.m, x.d⟩ b ∧ a < pw x.n ∧ b < pw x.m ∧ x.n ≤ L ∧ x.m ≤ L ∧ qv x.s a b = q := by
  obtain ⟨xs, ys, h1, h2, h3, h4, h5⟩ := h
  exact ⟨val xs, val ys, ⟨xs, h1, rfl, by show x.n ≤ _; omega⟩, ⟨ys, h2, rfl, by show x.m ≤ _; omega⟩, h1.lt, h2.lt, h3, h4, h5⟩
theorem Nq.num {w : World} {Bd L : Nat} {x : Rc} {q : Rat} (h : Nq w Bd L x q) : Nn w Bd ⟨x.A, x.n, x.c⟩ (zmag q.num) := h.2.1
theorem Nq.den {w : World} {Bd L : Nat} {x : Rc} {q : Rat} (h : Nq w Bd L x q) : Nn w Bd ⟨x.B, x.m, x.d⟩ q.den := h.2.2.1
theorem Nq.lt {w : World} {Bd L : Nat} {x : Rc} {q : Rat} (h : Nq w Bd L x q) : zmag q.num < pw L ∧ q.den < pw L := by
  have h1 : Rd w Bd x.A x.n x.c (dig (zmag q.num)) := h.2.1
  have h2 : Rd w Bd x.B x.m x.d (dig q.den) := h.2.2.1
  have e1 := h1.lt
  have e2 := h2.lt
  rw [val_dig] at e1 e2
  exact ⟨pw_le h.2.2.2.1 e1, pw_le h.2.2.2.2 e2⟩
/-- made of two numbers in normal form without a common divisor -/
theorem Nq.mk {w : World} {Bd L : Nat} {x y : Nc} {a b : Nat} (hx : Nn w Bd x a) (hy : Nn w Bd y b) (hb : b ≠ 0) (hg : Nat.gcd a b = 1) (ha : a < pw L) (hbl : b < pw L) {q : Rat} (hq : Rat.divInt (a : Int) (b : Int) = q) : Nq w Bd L ⟨false, x.A, x.n, x.c, y.A, y.n, y.c⟩ q := by
  obtain ⟨e1, e2⟩ : q.num = (a : Int) ∧ q.den = b := by
    rw [← hq]
    have h := Rat.divInt_ofNat (a : Int) b
    have e : mkRat (a : Int) b = ⟨(a : Int), b, hb, by rw [Int.natAbs_natCast]; exact hg⟩ := by
      rw [← Rat.normalize_eq_mkRat hb, Rat.normalize_eq]
      simp [hg]
    rw [show Rat.divInt (a : Int) (b : Int) = mkRat (a : Int) b from h, e]
    exact ⟨rfl, rfl⟩
  refine ⟨by rw [e1]; simp [zneg], ?_, by rw [e2]; exact hy, ?_, ?_⟩
  · rw [e1]
    have e : zmag (a : Int) = a := by simp [zmag]
    rw [e]; exact hx
  · show x.n ≤ L
    rw [← (show Rd w Bd x.A x.n x.c (dig a) from hx).len]; exact dl ha
  · show y.n ≤ L
    rw [← (show Rd w Bd y.A y.n y.c (dig b) from hy).len]; exact dl hbl
end
end Go.Proofs.Ytdihgmbldnekhaa
