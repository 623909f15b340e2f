/-
  OpenRat, OpenSpan, OpenRats.
-/
import Derived.Test.YtdihgmbldnekhaaOpens
import Derived.Test.YtdihgmbldnekhaaRatA
import Derived.Test.YtdihgmbldnekhaaRatN
namespace Go.Proofs.Ytdihgmbldnekhaa
section
open Go.ChangeShapes Go.WideShapes Go.ChangeAt Go.RowKit

set_option maxRecDepth 100000 in
theorem Try.cellsRat : Try.prog.cellsOf 27 = 3 := by kernel_rfl
set_option maxRecDepth 100000 in
theorem Try.readRat : Try.prog.readableRec 27 = true := by kernel_rfl
set_option maxRecDepth 100000 in
theorem Try.typesRat : 27 < Try.prog.types.size := of_decide_eq_true (by kernel_rfl)

set_option maxRecDepth 100000 in
theorem open_rat_cells {H : Type} {enc : TypeId × Value → H} {W : World} {fuel : Nat} {c0 c1 c2 : Value} {y : DataW H × List MemPlace}
    (hf : DataW.trod enc Try.prog W 0 (fun _ => true) true fuel 27 [c0, c1, c2] = some y) :
    ∃ (s : Bool) (A : Option Addr) (n c : Nat) (xs : List Nat) (B : Option Addr) (m d : Nat) (ys : List Nat), c0 = .bool s ∧ c1 = .slice A n c ∧ c2 = .slice B m d ∧ (n ≤ 70368744177664 → Rd W W.heap.size A n c xs) ∧ (m ≤ 70368744177664 → Rd W W.heap.size B m d ys) := by
  obtain ⟨y0, y1, k, hx, _, h0, h1⟩ := ChangeShapes.trod_struct2 Try.underlying27 hf
  have h0' : DataW.trod enc Try.prog W 0 (fun _ => true) true k 25 [c0, c1] = some y0 := by rw [← h0, Try.cellsInt]; rfl
  obtain ⟨z0, z1, k', hx', _, g0, g1⟩ := ChangeShapes.trod_struct2 Try.underlying25 h0'
  have e0 : Try.prog.cellsOf 4 = 1 := by kernel_rfl
  have e1 : Try.prog.cellsOf 23 = 1 := by kernel_rfl
  have g0' : DataW.trod enc Try.prog W 0 (fun _ => true) true k' 4 [c0] = some z0 := by rw [← g0, e0]; rfl
  have g1' : DataW.trod enc Try.prog W 0 (fun _ => true) true k' 23 [c1] = some z1 := by rw [← g1, e1]; rfl
  have h1' : DataW.trod enc Try.prog W 0 (fun _ => true) true k 23 [c2] = some y1 := by rw [← h1, e1]; rfl
  obtain ⟨s, hs, _⟩ := DataW.trod_bool Try.underlying4 g0'
  obtain ⟨A, n, c, hc⟩ := Joins.slice_form Try.underlying23 g1'
  obtain ⟨B, m, d, hd⟩ := Joins.slice_form Try.underlying23 h1'
  simp only [List.cons.injEq, and_true] at hs hc hd
  subst hs hc hd
  have a1 : DataW.trod enc Try.prog W 0 (fun _ => true) true k' 23 (Value.slice A n c).cells.toList = some (z1.1, z1.2) := g1'
  have a2 : DataW.trod enc Try.prog W 0 (fun _ => true) true k 23 (Value.slice B m d).cells.toList = some (y1.1, y1.2) := h1'
  obtain ⟨xs, hR, _⟩ := open_nat a1
  obtain ⟨ys, hR', _⟩ := open_nat a2
  exact ⟨s, A, n, c, xs, B, m, d, ys, rfl, rfl, rfl, hR, hR'⟩
set_option maxRecDepth 100000 in
theorem open_rat_agg {H : Type} {enc : TypeId × Value → H} {W : World} {r : Reach} {b0 : Nat} {v : Value} {d : DataW H} {p : List MemPlace}
    (hv : Value.okWide Try.prog W r b0 27 v) (h : DataW.Trod enc Try.prog W 0 (fun _ => true) true 27 v d p) :
    ∃ (s : Bool) (A : Option Addr) (n c : Nat) (xs : List Nat) (B : Option Addr) (m d : Nat) (ys : List Nat), v = .agg #[.bool s, .slice A n c, .slice B m d] ∧ (n ≤ 70368744177664 → Rd W W.heap.size A n c xs) ∧ (m ≤ 70368744177664 → Rd W W.heap.size B m d ys) := by
  obtain ⟨cs, rfl, hsz⟩ := okWide_struct Try.underlying27 hv
  obtain ⟨c0, c1, c2, rfl⟩ := Joins.array3 (hsz.trans Try.cellsRat)
  obtain ⟨fuel, hf⟩ := h
  obtain ⟨s, A, n, c, xs, B, m, d, ys, rfl, rfl, rfl, hR, hR'⟩ := open_rat_cells (show DataW.trod enc Try.prog W 0 (fun _ => true) true fuel 27 [c0, c1, c2] = some _ from hf)
  exact ⟨s, A, n, c, xs, B, m, d, ys, rfl, hR, hR'⟩
end

section
open Go.ChangeShapes Go.WideShapes Go.ChangeAt Go.RowKit

theorem slice_bulk {H : Type} {y : DataW H} {n : Nat} (h : (y = .nil ∧ n = 0) ∨ ∃ es sp, y = .slice es sp ∧ es.length = n) : n ≤ Rows.uptoBulk y := by
  rcases h with ⟨_, h⟩ | ⟨es, sp, rfl, h⟩
  · omega
  · have h3 := bulk_len es
    simp only [Rows.uptoBulk]
    omega
theorem bulk_two {H : Type} (x y : DataW H) : Rows.uptoBulk x ≤ Rows.uptoBulk (.agg [x, y]) ∧ Rows.uptoBulk y ≤ Rows.uptoBulk (.agg [x, y]) := by
  simp only [Rows.uptoBulk, Rows.uptoBulkAll]
  omega
theorem small_mem {H : Type} {l : List (DataW H)} {d : DataW H} (hk : Rows.uptoSmall H l = true) (hd : d ∈ l) : Rows.uptoBulk d ≤ 1048576 := Nat.le_trans (bulk_mem hd) (of_decide_eq_true hk)
set_option maxRecDepth 100000 in
theorem open_int_cells {H : Type} {enc : TypeId × Value → H} {W : World} {fuel : Nat} {c0 c1 : Value} {y : DataW H × List MemPlace}
    (h : DataW.trod enc Try.prog W 0 (fun _ => true) true fuel 25 [c0, c1] = some y) :
    ∃ (s : Bool) (A : Option Addr) (n c : Nat) (xs : List Nat), c0 = .bool s ∧ c1 = .slice A n c ∧ (n ≤ 70368744177664 → Rd W W.heap.size A n c xs) ∧ n ≤ Rows.uptoBulk y.1 := by
  obtain ⟨z0, z1, k', hx', _, g0, g1⟩ := ChangeShapes.trod_struct2 Try.underlying25 h
  have e0 : Try.prog.cellsOf 4 = 1 := by kernel_rfl
  have e1 : Try.prog.cellsOf 23 = 1 := by kernel_rfl
  have g0' : DataW.trod enc Try.prog W 0 (fun _ => true) true k' 4 [c0] = some z0 := by rw [← g0, e0]; rfl
  have g1' : DataW.trod enc Try.prog W 0 (fun _ => true) true k' 23 [c1] = some z1 := by rw [← g1, e1]; rfl
  obtain ⟨s, hs, _⟩ := DataW.trod_bool Try.underlying4 g0'
  obtain ⟨A, n, c, hc⟩ := Joins.slice_form Try.underlying23 g1'
  simp only [List.cons.injEq, and_true] at hs hc
  subst hs hc
  have a1 : DataW.trod enc Try.prog W 0 (fun _ => true) true k' 23 (Value.slice A n c).cells.toList = some (z1.1, z1.2) := g1'
  obtain ⟨xs, hR, hd⟩ := open_nat a1
  refine ⟨s, A, n, c, xs, rfl, rfl, hR, ?_⟩
  rw [hx']
  exact Nat.le_trans (slice_bulk hd) (bulk_two z0.1 z1.1).2
set_option maxRecDepth 100000 in
theorem open_rat3 {H : Type} {enc : TypeId × Value → H} {W : World} {fuel : Nat} {c0 c1 c2 : Value} {y : DataW H × List MemPlace}
    (hf : DataW.trod enc Try.prog W 0 (fun _ => true) true fuel 27 [c0, c1, c2] = some y) (hk : Rows.uptoBulk y.1 ≤ 1048576) :
    ∃ (x : Rc) (q : Rat), c0 = .bool x.s ∧ c1 = .slice x.A x.n x.c ∧ c2 = .slice x.B x.m x.d ∧ Rq W W.heap.size 1048576 x q := by
  obtain ⟨y0, y1, k, hx, _, h0, h1⟩ := ChangeShapes.trod_struct2 Try.underlying27 hf
  have h0' : DataW.trod enc Try.prog W 0 (fun _ => true) true k 25 [c0, c1] = some y0 := by rw [← h0, Try.cellsInt]; rfl
  have e1 : Try.prog.cellsOf 23 = 1 := by kernel_rfl
  have h1' : DataW.trod enc Try.prog W 0 (fun _ => true) true k 23 [c2] = some y1 := by rw [← h1, e1]; rfl
  obtain ⟨s, A, n, c, xs, rfl, rfl, hR, hn⟩ := open_int_cells h0'
  obtain ⟨B, m, e, hd⟩ := Joins.slice_form Try.underlying23 h1'
  simp only [List.cons.injEq, and_true] at hd
  subst hd
  have a2 : DataW.trod enc Try.prog W 0 (fun _ => true) true k 23 (Value.slice B m e).cells.toList = some (y1.1, y1.2) := h1'
  obtain ⟨ys, hR', hm⟩ := open_nat a2
  rw [hx] at hk
  have b1 := bulk_two y0.1 y1.1
  have b2 := slice_bulk hm
  have k1 : n ≤ 1048576 := Nat.le_trans (Nat.le_trans hn b1.1) hk
  have k2 : m ≤ 1048576 := Nat.le_trans (Nat.le_trans b2 b1.2) hk
  exact ⟨⟨s, A, n, c, B, m, e⟩, qv s (val xs) (val ys), rfl, rfl, rfl, xs, ys, hR (by omega), hR' (by omega), k1, k2, rfl⟩
set_option maxRecDepth 100000 in
theorem open_rat_q {H : Type} {enc : TypeId × Value → H} {W : World} {r : Reach} {b0 : Nat} {v : Value} {d : DataW H} {p : List MemPlace}
    (hv : Value.okWide Try.prog W r b0 27 v) (h : DataW.Trod enc Try.prog W 0 (fun _ => true) true 27 v d p) (hk : Rows.uptoBulk d ≤ 1048576) :
    ∃ (x : Rc) (q : Rat), v = .agg #[.bool x.s, .slice x.A x.n x.c, .slice x.B x.m x.d] ∧ Rq W W.heap.size 1048576 x q := by
  obtain ⟨cs, rfl, hsz⟩ := okWide_struct Try.underlying27 hv
  obtain ⟨c0, c1, c2, rfl⟩ := Joins.array3 (hsz.trans Try.cellsRat)
  obtain ⟨fuel, hf⟩ := h
  obtain ⟨x, q, rfl, rfl, rfl, hq⟩ := open_rat3 (show DataW.trod enc Try.prog W 0 (fun _ => true) true fuel 27 [c0, c1, c2] = some (d, p) from hf) hk
  exact ⟨x, q, rfl, hq⟩
theorem array6 {α : Type} {cs : Array α} (h : cs.size = 6) : ∃ a b c d e f, cs = #[a, b, c, d, e, f] := by
  obtain ⟨l⟩ := cs
  match l, h with
  | [a, b, c, d, e, f], _ => exact ⟨a, b, c, d, e, f, rfl⟩
end

section
open Go.ChangeShapes Go.WideShapes Go.ChangeAt Go.RowKit

set_option maxRecDepth 100000 in
theorem Try.readRatL : Try.prog.readableRec 29 = true := by kernel_rfl
set_option maxRecDepth 100000 in
theorem Try.typesRatL : 29 < Try.prog.types.size := of_decide_eq_true (by kernel_rfl)
theorem bulk_pair {H : Type} (x y : DataW H) : Rows.uptoBulk x + Rows.uptoBulk y + 1 ≤ Rows.uptoBulk (.agg [x, y]) := by
  simp only [Rows.uptoBulk, Rows.uptoBulkAll]
  omega
set_option maxRecDepth 100000 in
theorem open_rat3s {H : Type} {enc : TypeId × Value → H} {W : World} {fuel : Nat} {c0 c1 c2 : Value} {y : DataW H × List MemPlace}
    (hf : DataW.trod enc Try.prog W 0 (fun _ => true) true fuel 27 [c0, c1, c2] = some y) (hk : Rows.uptoBulk y.1 ≤ 1048576) :
    ∃ (x : Rc) (q : Rat), c0 = .bool x.s ∧ c1 = .slice x.A x.n x.c ∧ c2 = .slice x.B x.m x.d ∧ Rq W W.heap.size 1048576 x q ∧ x.n + x.m + 1 ≤ Rows.uptoBulk y.1 := by
  obtain ⟨y0, y1, k, hx, _, h0, h1⟩ := ChangeShapes.trod_struct2 Try.underlying27 hf
  have h0' : DataW.trod enc Try.prog W 0 (fun _ => true) true k 25 [c0, c1] = some y0 := by rw [← h0, Try.cellsInt]; rfl
  have e1 : Try.prog.cellsOf 23 = 1 := by kernel_rfl
  have h1' : DataW.trod enc Try.prog W 0 (fun _ => true) true k 23 [c2] = some y1 := by rw [← h1, e1]; rfl
  obtain ⟨s, A, n, c, xs, rfl, rfl, hR, hn⟩ := open_int_cells h0'
  obtain ⟨B, m, e, hd⟩ := Joins.slice_form Try.underlying23 h1'
  simp only [List.cons.injEq, and_true] at hd
  subst hd
  have a2 : DataW.trod enc Try.prog W 0 (fun _ => true) true k 23 (Value.slice B m e).cells.toList = some (y1.1, y1.2) := h1'
  obtain ⟨ys, hR', hm⟩ := open_nat a2
  rw [hx] at hk ⊢
  have b1 := bulk_pair y0.1 y1.1
  have b2 := slice_bulk hm
  have hk' : Rows.uptoBulk (.agg [y0.1, y1.1]) ≤ 1048576 := hk
  have k1 : n ≤ 1048576 := by omega
  have k2 : m ≤ 1048576 := by omega
  exact ⟨⟨s, A, n, c, B, m, e⟩, qv s (val xs) (val ys), rfl, rfl, rfl, ⟨xs, ys, hR (by omega), hR' (by omega), k1, k2, rfl⟩, by show n + m + 1 ≤ Rows.uptoBulk (.agg [y0.1, y1.1]); omega⟩
/-- the sizes of the first n elements together -/
def szs (X : Nat → Rc) : Nat → Nat
  | 0 => 0
  | n + 1 => szs X n + ((X n).n + (X n).m)
theorem bulkAll_append {H : Type} (a b : List (DataW H)) : Rows.uptoBulkAll (a ++ b) = Rows.uptoBulkAll a + Rows.uptoBulkAll b := by
  induction a with
  | nil => simp [Rows.uptoBulkAll]
  | cons x a ih => simp only [List.cons_append, Rows.uptoBulkAll, ih]; omega
theorem szs_bulk1 {H : Type} {X : Nat → Rc} {D : Nat → DataW H} : ∀ {n : Nat}, (∀ i, i < n → (X i).n + (X i).m + 1 ≤ Rows.uptoBulk (D i)) → n + szs X n ≤ Rows.uptoBulkAll ((List.range n).map D)
  | 0, _ => Nat.zero_le _
  | n + 1, h => by
    have h1 := szs_bulk1 (X := X) (D := D) (n := n) fun i hi => h i (by omega)
    have h2 := h n (by omega)
    rw [List.range_succ, List.map_append, bulkAll_append]
    simp only [List.map_cons, List.map_nil, Rows.uptoBulkAll, szs]
    omega
theorem szs_mono {X : Nat → Rc} {m n : Nat} (h : m ≤ n) : szs X m ≤ szs X n := by
  obtain ⟨k, rfl⟩ : ∃ k, n = m + k := ⟨n - m, by omega⟩
  clear h
  induction k with
  | zero => exact Nat.le_refl _
  | succ k ih => rw [← Nat.add_assoc, szs]; omega
set_option maxRecDepth 100000 in
theorem open_rats_q {H : Type} {enc : TypeId × Value → H} {W : World} {fuel : Nat} {a0 : Option Addr} {len cap : Nat} {d : DataW H} {p : List MemPlace}
    (hf : DataW.trod enc Try.prog W 0 (fun _ => true) true fuel 29 (Value.slice a0 len cap).cells.toList = some (d, p)) (hk : Rows.uptoBulk d ≤ 1048576) :
    ∃ (X : Nat → Rc) (q : Nat → Rat), LQ (fun _ => false) W W.heap.size 1048576 a0 len cap X q ∧ len + szs X len ≤ 1048576 := by
  rcases Go.Deep.open_slice Try.underlying29 hf with ⟨hcs, hx⟩ | ⟨a, len', cap', m, n, D, Pl, hcs, hb, hl, hm, hmm, hx, hi⟩
  · simp [Value.cells] at hcs
    obtain ⟨rfl, rfl, rfl⟩ := hcs
    exact ⟨fun _ => zeroRc, fun _ => 0, LQ.empty _ _ _ _ _ (by omega) _ _, by simp [szs]⟩
  · simp [Value.cells] at hcs
    obtain ⟨rfl, rfl, rfl⟩ := hcs
    simp only [Prod.mk.injEq] at hx
    obtain ⟨rfl, _⟩ := hx
    simp only [Rows.uptoBulk] at hk
    have key : ∀ i, i < len → ∃ y : Rc × Rat, AtQ W a i y.1 ∧ Rq W W.heap.size 1048576 y.1 y.2 ∧ y.1.n + y.1.m + 1 ≤ Rows.uptoBulk (D i) := by
      intro i hi'
      obtain ⟨cs', hc, ht'⟩ := hi i (by simp only [if_true] at hmm; omega)
      rw [Try.cellsRat] at hc
      obtain ⟨_, hcl, hat⟩ := World.cells?_some hc
      have hbi := bulk_mem (d := D i) (l := (List.range len).map D) (List.mem_map.2 ⟨i, List.mem_range.2 hi', rfl⟩)
      match cs', hcl with
      | [c0, c1, c2], _ =>
        obtain ⟨x, q, rfl, rfl, rfl, hq, hs⟩ := open_rat3s ht' (show Rows.uptoBulk (D i) ≤ 1048576 by omega)
        have e0 := hat 0 (by omega)
        have e1 := hat 1 (by omega)
        have e2 := hat 2 (by omega)
        rw [Go.Deep.add_add] at e0 e1 e2
        exact ⟨(x, q), ⟨e0, e1, e2⟩, hq, hs⟩
    have pick : ∃ Y : Nat → Rc × Rat, ∀ i, i < len → AtQ W a i (Y i).1 ∧ Rq W W.heap.size 1048576 (Y i).1 (Y i).2 ∧ (Y i).1.n + (Y i).1.m + 1 ≤ Rows.uptoBulk (D i) :=
      ⟨fun i => if h : i < len then Classical.choose (key i h) else (zeroRc, 0), fun i hi' => by
        simp only [dif_pos hi']
        exact Classical.choose_spec (key i hi')⟩
    obtain ⟨Y, hY⟩ := pick
    refine ⟨fun i => (Y i).1, fun i => (Y i).2, ⟨hl, by simp only [maxLen] at hm; omega, fun h0 => ⟨a, rfl, ?_, fun i hi' => (hY i hi').1⟩, fun i hi' => ⟨(hY i hi').2.1, fun e => by cases e⟩⟩, ?_⟩
    · have := World.block_lt_of_cell? W _ (hY 0 h0).1.1
      rwa [block_add] at this
    · have h1 := szs_bulk1 (X := fun i => (Y i).1) (D := D) (n := len) fun i hi' => (hY i hi').2.2
      omega
end
end Go.Proofs.Ytdihgmbldnekhaa
