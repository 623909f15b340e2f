/-
  What a slice of limbs is in memory: Rd (it reads as a list), Own (a whole block that the call made), and small laws on both.
-/
import Derived.Test.YtjbbapibpcgnhaaRows
import Derived.Test.YtjbbapibpcgnhaaMath
import Derived.WalkKit
import Derived.WalkSpells
import Derived.WalkLawsBesides
import Derived.Deep.QuietTactic
import Derived.BigQuiet
import Derived.Deep.Draws
import Derived.Laws.CopyOwn
namespace Go.Proofs.Ytjbbapibpcgnhaa
open Go.RowKit

theorem below_drewN {B : Nat} {a w : World} (h : Below B a w) (n : Nat) : Below B a (w.drewN n) := ⟨h.os, h.tape, h.output, h.size, h.block⟩
theorem hide {p : Prop} (h : p) : Hid p := h

/-- The slice .slice A n c reads as the limbs xs, all its cells below block Bd. -/
structure Rd (w : World) (Bd : Nat) (A : Option Addr) (n c : Nat) (xs : List Nat) : Prop where
  len : xs.length = n
  limbs : Limbs xs
  cap : n ≤ c
  big : n ≤ 70368744177664
  cbig : c ≤ 9223372036854775807
  cells : 0 < n → ∃ ad, A = some ad ∧ ad.block < Bd ∧ ∀ j, j < n → w.cell? (ad.add j) = some (.int .u32 (lm xs j : Int))

theorem block_add (a : Addr) (n : Nat) : (a.add n).block = a.block := by unfold Addr.add; split <;> rfl
theorem add_zero_ (a : Addr) : a.add 0 = a := by simp [Addr.add]
theorem add_add_ (a : Addr) (i j : Nat) : (a.add i).add j = a.add (i + j) := by
  unfold Addr.add
  by_cases hi : i = 0 <;> by_cases hj : j = 0 <;> simp [hi, hj, Nat.add_assoc]

section
variable {w w' : World} {Bd B' n c : Nat} {A : Option Addr} {xs : List Nat}
theorem Rd.at_ (h : Rd w Bd A n c xs) {k : Nat} (hk : k < n) : ∃ ad, A = some ad ∧ ad.block < Bd ∧ w.cell? (ad.add k) = some (.int .u32 (lm xs k : Int)) := by
  obtain ⟨ad, e, hb, hc⟩ := h.cells (by omega)
  exact ⟨ad, e, hb, hc k hk⟩
theorem Rd.keep (h : Rd w Bd A n c xs) (hk : ∀ p : Addr, p.block < Bd → w'.cell? p = w.cell? p) : Rd w' Bd A n c xs :=
  ⟨h.len, h.limbs, h.cap, h.big, h.cbig, fun hn => by
    obtain ⟨ad, e, hb, hc⟩ := h.cells hn
    exact ⟨ad, e, hb, fun j hj => (hk _ (by rw [block_add]; exact hb)).trans (hc j hj)⟩⟩
theorem Rd.more (h : Rd w Bd A n c xs) (hB : Bd ≤ B') : Rd w B' A n c xs :=
  ⟨h.len, h.limbs, h.cap, h.big, h.cbig, fun hn => by
    obtain ⟨ad, e, hb, hc⟩ := h.cells hn
    exact ⟨ad, e, by omega, hc⟩⟩
theorem Rd.below (h : Rd w Bd A n c xs) (hb : Below Bd w w') : Rd w' Bd A n c xs := h.keep fun _ hp => hb.cell hp
theorem Rd.alloc (h : Rd w Bd A n c xs) (hB : Bd ≤ w.heap.size) (o : Obj) : Rd (w.alloc o) Bd A n c xs := h.below ((Below.refl _ _).alloc hB o)
theorem Rd.drewN (h : Rd w Bd A n c xs) (k : Nat) : Rd (w.drewN k) Bd A n c xs := ⟨h.len, h.limbs, h.cap, h.big, h.cbig, h.cells⟩
/-- a slice of no limbs -/
theorem Rd.empty (w : World) (Bd : Nat) (A : Option Addr) {c : Nat} (hc : c ≤ 9223372036854775807) : Rd w Bd A 0 c [] :=
  ⟨rfl, Limbs_nil, Nat.zero_le _, by omega, hc, fun h => absurd h (by omega)⟩
/-- a[:k] -/
theorem Rd.take (h : Rd w Bd A n c xs) {k : Nat} (hk : k ≤ n) : Rd w Bd A k c (xs.take k) :=
  ⟨by rw [List.length_take, h.len]; omega, Limbs_take h.limbs k, Nat.le_trans hk h.cap, Nat.le_trans hk h.big, h.cbig, fun h0 => by
    obtain ⟨ad, e, hb, hc⟩ := h.cells (by omega)
    exact ⟨ad, e, hb, fun j hj => by rw [hc j (by omega), lm_take, if_pos hj]⟩⟩
/-- what trim leaves -/
theorem Rd.trim (h : Rd w Bd A n c xs) : Rd w Bd A (dig (val xs)).length c (dig (val xs)) := by
  have hl : (dig (val xs)).length ≤ n := by rw [← h.len]; exact dig_len_val h.limbs
  refine ⟨rfl, Limbs_dig _, Nat.le_trans hl h.cap, Nat.le_trans hl h.big, h.cbig, fun h0 => ?_⟩
  obtain ⟨ad, e, hb, hc⟩ := h.cells (by omega)
  refine ⟨ad, e, hb, fun j hj => ?_⟩
  rw [hc j (by omega)]
  have := vl_inj h.limbs (Limbs_dig (val xs)) n (by
    rw [vl_ge (by rw [h.len]; exact Nat.le_refl n), vl_ge (by omega), val_dig]) j (by omega)
  rw [this]
end

/-- A block of the call's own: its first cells are the limbs os; none is frozen. -/
structure Own (w : World) (g : Nat) (os : List Nat) : Prop where
  limbs : Limbs os
  blk : ∃ cur, w.heap[g]? = some (.cells cur 51 (0, 0)) ∧ ∀ j, j < os.length → cur[j]? = some (.int .u32 (lm os j : Int))

section
variable {w w' : World} {g : Nat} {os : List Nat}
theorem Own.lt (h : Own w g os) : g < w.heap.size := by
  obtain ⟨cur, hg, _⟩ := h.blk
  exact (Array.getElem?_eq_some_iff.1 hg).1
theorem Own.cell (h : Own w g os) {j : Nat} (hj : j < os.length) : w.cell? ⟨g, j, none⟩ = some (.int .u32 (lm os j : Int)) := by
  obtain ⟨cur, hg, hc⟩ := h.blk
  rw [cell_of_row w g j cur _ (0, 0) hg]
  exact hc j hj
theorem Own.frozen (h : Own w g os) (j : Nat) : w.frozen? ⟨g, j, none⟩ = false := by
  obtain ⟨cur, hg, _⟩ := h.blk
  exact frozen_of_row w g j cur _ hg
theorem Own.set (h : Own w g os) {j x : Nat} (hx : x < 4294967296) : Own (w.setCell ⟨g, j, none⟩ (.int .u32 (x : Int))) g (os.set j x) := by
  refine ⟨Limbs_set h.limbs hx, ?_⟩
  obtain ⟨cur, hg, hc⟩ := h.blk
  refine ⟨cur.setIfInBounds j (.int .u32 (x : Int)), heap_setCell_same w g j cur _ _ hg, fun i hi => ?_⟩
  rw [List.length_set] at hi
  rw [Array.getElem?_setIfInBounds]
  by_cases hj : j = i
  · subst hj
    have hs : j < cur.size := by
      have := hc j hi
      exact (Array.getElem?_eq_some_iff.1 this).1
    rw [if_pos rfl, if_pos hs, lm_set_eq _ hi]
  · rw [if_neg hj, lm_set_ne _ hj]
    exact hc i hi
theorem Own.put (h : Own w g os) {j x : Nat} {u : Int} (hx : x < 4294967296) (hu : u = (x : Int)) : Own (w.setCell ⟨g, j, none⟩ (.int .u32 u)) g (os.set j x) := by
  subst hu
  exact h.set hx
theorem Own.block (h : Own w g os) (hb : w'.heap[g]? = w.heap[g]?) : Own w' g os := ⟨h.limbs, by
  obtain ⟨cur, hg, hc⟩ := h.blk
  exact ⟨cur, hb.trans hg, hc⟩⟩
theorem Own.alloc (h : Own w g os) (o : Obj) : Own (w.alloc o) g os := h.block (Below.heap_alloc w o g h.lt)
theorem Own.drewN (h : Own w g os) (k : Nat) : Own (w.drewN k) g os := ⟨h.limbs, h.blk⟩
theorem Own.below {B : Nat} (h : Own w g os) (hb : Below B w w') (hg : g < B) : Own w' g os := h.block (hb.block g hg)
theorem Own.grown {row : Option Nat} (h : Own w g os) (hb : w.grownBy w' row) (hg : some g ≠ row) : Own w' g os := h.block (hb.block g h.lt hg)
theorem Own.take (h : Own w g os) (k : Nat) : Own w g (os.take k) := ⟨Limbs_take h.limbs k, by
  obtain ⟨cur, hg, hc⟩ := h.blk
  refine ⟨cur, hg, fun j hj => ?_⟩
  rw [List.length_take] at hj
  rw [hc j (by omega), lm_take, if_pos (by omega)]⟩
/-- the whole block, or a part of it, as a slice that is read -/
theorem Own.rd (h : Own w g os) {off n c : Nat} (hn : off + n ≤ os.length) (hc : n ≤ c) (hb : c ≤ 70368744177664) {B : Nat} (hB : g < B) : Rd w B (some ⟨g, off, none⟩) n c ((os.drop off).take n) := by
  refine ⟨by rw [List.length_take, List.length_drop]; omega, Limbs_take (Limbs_drop h.limbs _) _, hc, by omega, by omega, fun _ => ⟨_, rfl, hB, fun j hj => ?_⟩⟩
  rw [Addr.add_lit, h.cell (by omega), lm_take, if_pos hj, lm_drop]
theorem Own.rd0 (h : Own w g os) {c : Nat} (hc : os.length ≤ c) (hb : c ≤ 70368744177664) {B : Nat} (hB : g < B) : Rd w B (some ⟨g, 0, none⟩) os.length c os := by
  have := h.rd (off := 0) (n := os.length) (by omega) hc hb hB
  simpa using this
theorem Own.of_lit (w : World) (n : Nat) : Own (w.alloc (.cells (madeCells #[.int .u32 0] n) 51)) w.heap.size (List.replicate n 0) := by
  refine ⟨Limbs_zeros n, _, heap_alloc_new w _, fun j hj => ?_⟩
  rw [List.length_replicate] at hj
  rw [lm_zeros]
  simp [madeCells, hj, Nat.mod_one]
end

theorem Try.infoLimb : (Try.prog.info? 51).map (fun i => (i.zero, i.size, i.bytes)) = some (some (.int .u32 0), 1, 4) := by kernel_rfl
theorem Try.sizeLimb : (Try.prog.info? 51).map (·.size) = some 1 := by kernel_rfl

/-- 'make(api.Nat, n)': a block of the call's own, all limbs 0. -/
theorem wpList_make_nat {ops : Array Oper} {rest : List Oper} {o : Oper} {a : Act} {Q : Exit → Act → World → Prop} (w : World)
    (hg : o.guard = none) (l c : Operand) (hop : o.op = Op.makeSlice 23 l c) (kl kc : IntKind) (L C : Int) (n : Nat) (hl : a.eval l = .int kl L) (hc : a.eval c = .int kc C) (hL : L = (n : Int)) (hC : C = (n : Int)) (hn : n ≤ 70368744177664)
    (hK : ∀ w1, Own w1 w.heap.size (List.replicate n 0) → Below w.heap.size w w1 → w.heap.size < w1.heap.size → wpList Try.prog ops Q rest (a.put o.dst (.slice (some ⟨w.heap.size, 0, none⟩) n n)) w1) :
    wpList Try.prog ops Q (o :: rest) a w := by
  obtain ⟨i0, hi, hz0, hz1, hz2⟩ := info_parts Try.infoLimb
  refine wpList_make_full w hg l c 23 hop w.heap.size 51 i0 (.int .u32 0) 1 Try.underlying23 hi hz0 hz1 kl kc L C n hl hc hL hC (by rw [hz2]; omega) (by simp only [maxLen]; omega) (Nat.le_refl _) ?_
  intro w1 hown hgrow
  have hO : Own w1 w.heap.size (List.replicate n 0) := by
    refine ⟨Limbs_zeros n, ?_⟩
    rcases hown.2 with ⟨h, _⟩ | ⟨g, cap, cur, hv, _, hh, hnc, hcm, hcs, ht⟩
    · simp at h
    · simp only [Value.slice.injEq, Option.some.injEq, Addr.mk.injEq, and_true, true_and] at hv
      obtain ⟨rfl, rfl⟩ := hv
      refine ⟨cur, hh, fun j hj => ?_⟩
      rw [List.length_replicate] at hj
      rw [lm_zeros]
      have e : (cur.toList.take (n * 1))[j]? = cur[j]? := by rw [List.getElem?_take, if_pos (by omega), Array.getElem?_toList]
      rw [← e, ht, Nat.mul_one]
      show ((madeCells #[.int .u32 0] n).toList)[j]? = _
      rw [toList_madeCells_one, List.getElem?_replicate, if_pos hj]
      rfl
  exact hK w1 hO ((Below.refl _ _).grown hgrow (Nat.le_refl _) (by simp)) hO.lt

/-- 'copy(out, a)', out a block of the call's own that is at least as long. -/
theorem wpList_copy_nat {ops : Array Oper} {rest : List Oper} {o : Oper} {a : Act} {Q : Exit → Act → World → Prop} {w : World}
    (hg : o.guard = none) (d s : Operand) (ho : o.op = .call { callee := .builtin .copy, args := #[d, s], argTypes := #[23, 23] })
    (g dLen dCap : Nat) (A : Option Addr) (n c : Nat) (hd : a.eval d = .slice (some ⟨g, 0, none⟩) dLen dCap) (hs : a.eval s = .slice A n c)
    (os xs : List Nat) (Bd : Nat) (hown : Own w g os) (hlen : os.length = dLen) (hrd : Rd w Bd A n c xs) (hn : n ≤ dLen) (B : Nat) (w0 : World) (hb : Below B w0 w) (hBg : B ≤ g)
    (hK : ∀ w', Own w' g (xs ++ os.drop n) → Below B w0 w' → wpList Try.prog ops Q rest (a.put o.dst (goInt n)) w') :
    wpList Try.prog ops Q (o :: rest) a w := by
  obtain ⟨cur, hcur, hc⟩ := hown.blk
  have hxl := hrd.len
  have hsz : os.length ≤ cur.size := by
    rcases Nat.eq_zero_or_pos os.length with h | h
    · omega
    · have := (Array.getElem?_eq_some_iff.1 (hc (os.length - 1) (by omega))).1
      omega
  refine wpList_copy_splice hg d s _ _ ho 51 Try.underlying23 Try.sizeLimb (some ⟨g, 0, none⟩) A dLen dCap n c hd hs g 0 cur.toList 51 (by simpa using hcur)
    (xs.map fun x : Nat => Value.int .u32 (x : Int)) (by rw [List.length_map, hxl]; exact (Nat.min_eq_left hn).symm) (fun h0 => ?_) (by simp; omega) (by simp [Value.oneCell']) B w0 hb hBg ?_
  · obtain ⟨ad, rfl, _, hcell⟩ := hrd.cells (by simpa [hxl] using h0)
    refine ⟨rfl, ad, rfl, fun j v hv => ?_⟩
    have hj : j < n := by
      have := (List.getElem?_eq_some_iff.1 hv).1
      simpa [hxl] using this
    rw [hcell j hj]
    rw [List.getElem?_map, lm_get? (by omega)] at hv
    simpa using hv
  · intro w' hw' hb'
    have e : (xs.map fun x : Nat => Value.int .u32 (x : Int)).length = n := by simp [hxl]
    rw [e]
    refine hK w' ⟨Limbs_append hrd.limbs (Limbs_drop hown.limbs n), _, hw'.out, fun j hj => ?_⟩ hb'
    rw [lm_append, hxl]
    simp only [List.length_append, List.length_drop, hxl] at hj
    simp only [List.getElem?_toArray, splice, List.take_zero, List.nil_append, List.getElem?_append, e]
    by_cases h : j < n
    · rw [if_pos h, if_pos h, List.getElem?_map, lm_get? (by omega)]
      rfl
    · rw [if_neg h, if_neg h, lm_drop]
      rw [List.getElem?_drop, Array.getElem?_toList]
      have := hc j (by omega)
      rw [show 0 + n + (j - n) = j by omega, show n + (j - n) = j by omega]
      exact this

/-- a quiet call in a region that draws, wherever its draws began -/
theorem quiet_in {P : Program} {f : FuncId} {args : Array Value} {W V : World} {v : Value} (h : Calls P f args W fun e w' => e = .returned v ∧ w' = W) (hW : ∃ m, W = V.drewN m) :
    Calls P f args W fun e w' => e = .returned v ∧ ∃ m, w' = V.drewN m :=
  h.mono fun _ _ ⟨he, hw⟩ => ⟨he, by rw [hw]; exact hW⟩

/-- A value was handed back; the world is as it was, but for draws. -/
def RetQ (w : World) (v : Value) (e : Ending) (w' : World) : Prop := e = .returned v ∧ ∃ q, w' = w.drewN q

/-- A number was handed back: limbs without high zeros, readable; of what was there nothing has turned. -/
def RetNat (w : World) (m : Nat) (e : Ending) (w' : World) : Prop :=
  ∃ A c, e = .returned (.slice A (dig m).length c) ∧ Rd w' w'.heap.size A (dig m).length c (dig m) ∧ Below w.heap.size w w'
/-- The same, and it lies in a block of its own, which the caller may write. -/
def RetOwn (w : World) (m : Nat) (e : Ending) (w' : World) : Prop :=
  e = .returned (.slice (some ⟨w.heap.size, 0, none⟩) (dig m).length (dig m).length) ∧ Own w' w.heap.size (dig m) ∧ Below w.heap.size w w' ∧ (dig m).length ≤ 70368744177664
theorem RetOwn.nat {w : World} {m : Nat} {e : Ending} {w' : World} (h : RetOwn w m e w') : RetNat w m e w' :=
  ⟨_, _, h.1, h.2.1.rd0 (Nat.le_refl _) h.2.2.2 h.2.1.lt, h.2.2.1⟩

end Go.Proofs.Ytjbbapibpcgnhaa
