/-
  Mem, Trim, Norm, Cmp, Word.
-/
import Derived.Test.YtdihgmbldnekhaaRows
import Derived.Test.YtdihgmbldnekhaaNatMath
import Derived.WalkKit
import Derived.WalkSpells
import Derived.WalkLawsBesides
import Derived.Deep.QuietTactic
import Derived.BigQuiet
import Derived.Deep.Draws
import Derived.Laws.CopyOwn
namespace Go.Proofs.Ytdihgmbldnekhaa
section
open Go.RowKit

theorem below_drewN {B : Nat} {a w : World} (h : Below B a w) (n : Nat) : Below B a (w.drewN n) := ⟨h.os, h.tape, h.output, h.size, h.block⟩
theorem hide {p : Prop} (h : p) : Hid p := h

/-- The slice .slice A n c reads as the limbs xs, all its cells below block Bd. -/
structure Rd (w : World) (Bd : Nat) (A : Option Addr) (n c : Nat) (xs : List Nat) : Prop where
  len : xs.length = n
  limbs : Limbs xs
  cap : n ≤ c
  big : n ≤ 70368744177664
  cbig : c ≤ 9223372036854775807
  cells : 0 < n → ∃ ad, A = some ad ∧ ad.block < Bd ∧ ∀ j, j < n → w.cell? (ad.add j) = some (.int .u32 (lm xs j : Int))

theorem block_add (a : Addr) (n : Nat) : (a.add n).block = a.block := by unfold Addr.add; split <;> rfl
theorem add_zero_ (a : Addr) : a.add 0 = a := by simp [Addr.add]
theorem add_add_ (a : Addr) (i j : Nat) : (a.add i).add j = a.add (i + j) := by
  unfold Addr.add
  by_cases hi : i = 0 <;> by_cases hj : j = 0 <;> simp [hi, hj, Nat.add_assoc]

section
variable {w w' : World} {Bd B' n c : Nat} {A : Option Addr} {xs : List Nat}
theorem Rd.at_ (h : Rd w Bd A n c xs) {k : Nat} (hk : k < n) : ∃ ad, A = some ad ∧ ad.block < Bd ∧ w.cell? (ad.add k) = some (.int .u32 (lm xs k : Int)) := by
  obtain ⟨ad, e, hb, hc⟩ := h.cells (by omega)
  exact ⟨ad, e, hb, hc k hk⟩
theorem Rd.keep (h : Rd w Bd A n c xs) (hk : ∀ p : Addr, p.block < Bd → w'.cell? p = w.cell? p) : Rd w' Bd A n c xs :=
  ⟨h.len, h.limbs, h.cap, h.big, h.cbig, fun hn => by
    obtain ⟨ad, e, hb, hc⟩ := h.cells hn
    exact ⟨ad, e, hb, fun j hj => (hk _ (by rw [block_add]; exact hb)).trans (hc j hj)⟩⟩
theorem Rd.more (h : Rd w Bd A n c xs) (hB : Bd ≤ B') : Rd w B' A n c xs :=
  ⟨h.len, h.limbs, h.cap, h.big, h.cbig, fun hn => by
    obtain ⟨ad, e, hb, hc⟩ := h.cells hn
    exact ⟨ad, e, by omega, hc⟩⟩
theorem Rd.below (h : Rd w Bd A n c xs) (hb : Below Bd w w') : Rd w' Bd A n c xs := h.keep fun _ hp => hb.cell hp
theorem Rd.alloc (h : Rd w Bd A n c xs) (hB : Bd ≤ w.heap.size) (o : Obj) : Rd (w.alloc o) Bd A n c xs := h.below ((Below.refl _ _).alloc hB o)
theorem Rd.drewN (h : Rd w Bd A n c xs) (k : Nat) : Rd (w.drewN k) Bd A n c xs := ⟨h.len, h.limbs, h.cap, h.big, h.cbig, h.cells⟩
/-- a slice of no limbs -/
theorem Rd.empty (w : World) (Bd : Nat) (A : Option Addr) {c : Nat} (hc : c ≤ 9223372036854775807) : Rd w Bd A 0 c [] :=
  ⟨rfl, Limbs_nil, Nat.zero_le _, by omega, hc, fun h => absurd h (by omega)⟩
/-- a[:k] -/
theorem Rd.take (h : Rd w Bd A n c xs) {k : Nat} (hk : k ≤ n) : Rd w Bd A k c (xs.take k) :=
  ⟨by rw [List.length_take, h.len]; omega, Limbs_take h.limbs k, Nat.le_trans hk h.cap, Nat.le_trans hk h.big, h.cbig, fun h0 => by
    obtain ⟨ad, e, hb, hc⟩ := h.cells (by omega)
    exact ⟨ad, e, hb, fun j hj => by rw [hc j (by omega), lm_take, if_pos hj]⟩⟩
/-- what trim leaves -/
theorem Rd.trim (h : Rd w Bd A n c xs) : Rd w Bd A (dig (val xs)).length c (dig (val xs)) := by
  have hl : (dig (val xs)).length ≤ n := by rw [← h.len]; exact dig_len_val h.limbs
  refine ⟨rfl, Limbs_dig _, Nat.le_trans hl h.cap, Nat.le_trans hl h.big, h.cbig, fun h0 => ?_⟩
  obtain ⟨ad, e, hb, hc⟩ := h.cells (by omega)
  refine ⟨ad, e, hb, fun j hj => ?_⟩
  rw [hc j (by omega)]
  have := vl_inj h.limbs (Limbs_dig (val xs)) n (by
    rw [vl_ge (by rw [h.len]; exact Nat.le_refl n), vl_ge (by omega), val_dig]) j (by omega)
  rw [this]
end

/-- A block of the call's own: its first cells are the limbs os; none is frozen. -/
structure Own (w : World) (g : Nat) (os : List Nat) : Prop where
  limbs : Limbs os
  blk : ∃ cur, w.heap[g]? = some (.cells cur 39 (0, 0)) ∧ ∀ j, j < os.length → cur[j]? = some (.int .u32 (lm os j : Int))

section
variable {w w' : World} {g : Nat} {os : List Nat}
theorem Own.lt (h : Own w g os) : g < w.heap.size := by
  obtain ⟨cur, hg, _⟩ := h.blk
  exact (Array.getElem?_eq_some_iff.1 hg).1
theorem Own.cell (h : Own w g os) {j : Nat} (hj : j < os.length) : w.cell? ⟨g, j, none⟩ = some (.int .u32 (lm os j : Int)) := by
  obtain ⟨cur, hg, hc⟩ := h.blk
  rw [cell_of_row w g j cur _ (0, 0) hg]
  exact hc j hj
theorem Own.frozen (h : Own w g os) (j : Nat) : w.frozen? ⟨g, j, none⟩ = false := by
  obtain ⟨cur, hg, _⟩ := h.blk
  exact frozen_of_row w g j cur _ hg
theorem Own.set (h : Own w g os) {j x : Nat} (hx : x < 4294967296) : Own (w.setCell ⟨g, j, none⟩ (.int .u32 (x : Int))) g (os.set j x) := by
  refine ⟨Limbs_set h.limbs hx, ?_⟩
  obtain ⟨cur, hg, hc⟩ := h.blk
  refine ⟨cur.setIfInBounds j (.int .u32 (x : Int)), heap_setCell_same w g j cur _ _ hg, fun i hi => ?_⟩
  rw [List.length_set] at hi
  rw [Array.getElem?_setIfInBounds]
  by_cases hj : j = i
  · subst hj
    have hs : j < cur.size := by
      have := hc j hi
      exact (Array.getElem?_eq_some_iff.1 this).1
    rw [if_pos rfl, if_pos hs, lm_set_eq _ hi]
  · rw [if_neg hj, lm_set_ne _ hj]
    exact hc i hi
theorem Own.put (h : Own w g os) {j x : Nat} {u : Int} (hx : x < 4294967296) (hu : u = (x : Int)) : Own (w.setCell ⟨g, j, none⟩ (.int .u32 u)) g (os.set j x) := by
  subst hu
  exact h.set hx
theorem Own.block (h : Own w g os) (hb : w'.heap[g]? = w.heap[g]?) : Own w' g os := ⟨h.limbs, by
  obtain ⟨cur, hg, hc⟩ := h.blk
  exact ⟨cur, hb.trans hg, hc⟩⟩
theorem Own.alloc (h : Own w g os) (o : Obj) : Own (w.alloc o) g os := h.block (Below.heap_alloc w o g h.lt)
theorem Own.drewN (h : Own w g os) (k : Nat) : Own (w.drewN k) g os := ⟨h.limbs, h.blk⟩
theorem Own.below {B : Nat} (h : Own w g os) (hb : Below B w w') (hg : g < B) : Own w' g os := h.block (hb.block g hg)
theorem Own.grown {row : Option Nat} (h : Own w g os) (hb : w.grownBy w' row) (hg : some g ≠ row) : Own w' g os := h.block (hb.block g h.lt hg)
theorem Own.take (h : Own w g os) (k : Nat) : Own w g (os.take k) := ⟨Limbs_take h.limbs k, by
  obtain ⟨cur, hg, hc⟩ := h.blk
  refine ⟨cur, hg, fun j hj => ?_⟩
  rw [List.length_take] at hj
  rw [hc j (by omega), lm_take, if_pos (by omega)]⟩
/-- the whole block, or a part of it, as a slice that is read -/
theorem Own.rd (h : Own w g os) {off n c : Nat} (hn : off + n ≤ os.length) (hc : n ≤ c) (hb : c ≤ 70368744177664) {B : Nat} (hB : g < B) : Rd w B (some ⟨g, off, none⟩) n c ((os.drop off).take n) := by
  refine ⟨by rw [List.length_take, List.length_drop]; omega, Limbs_take (Limbs_drop h.limbs _) _, hc, by omega, by omega, fun _ => ⟨_, rfl, hB, fun j hj => ?_⟩⟩
  rw [Addr.add_lit, h.cell (by omega), lm_take, if_pos hj, lm_drop]
theorem Own.rd0 (h : Own w g os) {c : Nat} (hc : os.length ≤ c) (hb : c ≤ 70368744177664) {B : Nat} (hB : g < B) : Rd w B (some ⟨g, 0, none⟩) os.length c os := by
  have := h.rd (off := 0) (n := os.length) (by omega) hc hb hB
  simpa using this
theorem Own.of_lit (w : World) (n : Nat) : Own (w.alloc (.cells (madeCells #[.int .u32 0] n) 39)) w.heap.size (List.replicate n 0) := by
  refine ⟨Limbs_zeros n, _, heap_alloc_new w _, fun j hj => ?_⟩
  rw [List.length_replicate] at hj
  rw [lm_zeros]
  simp [madeCells, hj, Nat.mod_one]
end

theorem Try.infoLimb : (Try.prog.info? 39).map (fun i => (i.zero, i.size, i.bytes)) = some (some (.int .u32 0), 1, 4) := by kernel_rfl
theorem Try.sizeLimb : (Try.prog.info? 39).map (·.size) = some 1 := by kernel_rfl

/-- 'make(api.Nat, n)': a block of the call's own, all limbs 0. -/
theorem wpList_make_nat {ops : Array Oper} {rest : List Oper} {o : Oper} {a : Act} {Q : Exit → Act → World → Prop} (w : World)
    (hg : o.guard = none) (l c : Operand) (hop : o.op = Op.makeSlice 23 l c) (kl kc : IntKind) (L C : Int) (n : Nat) (hl : a.eval l = .int kl L) (hc : a.eval c = .int kc C) (hL : L = (n : Int)) (hC : C = (n : Int)) (hn : n ≤ 70368744177664)
    (hK : ∀ w1, Own w1 w.heap.size (List.replicate n 0) → Below w.heap.size w w1 → w.heap.size < w1.heap.size → wpList Try.prog ops Q rest (a.put o.dst (.slice (some ⟨w.heap.size, 0, none⟩) n n)) w1) :
    wpList Try.prog ops Q (o :: rest) a w := by
  obtain ⟨i0, hi, hz0, hz1, hz2⟩ := info_parts Try.infoLimb
  refine wpList_make_full w hg l c 23 hop w.heap.size 39 i0 (.int .u32 0) 1 Try.underlying23 hi hz0 hz1 kl kc L C n hl hc hL hC (by rw [hz2]; omega) (by simp only [maxLen]; omega) (Nat.le_refl _) ?_
  intro w1 hown hgrow
  have hO : Own w1 w.heap.size (List.replicate n 0) := by
    refine ⟨Limbs_zeros n, ?_⟩
    rcases hown.2 with ⟨h, _⟩ | ⟨g, cap, cur, hv, _, hh, hnc, hcm, hcs, ht⟩
    · simp at h
    · simp only [Value.slice.injEq, Option.some.injEq, Addr.mk.injEq, and_true, true_and] at hv
      obtain ⟨rfl, rfl⟩ := hv
      refine ⟨cur, hh, fun j hj => ?_⟩
      rw [List.length_replicate] at hj
      rw [lm_zeros]
      have e : (cur.toList.take (n * 1))[j]? = cur[j]? := by rw [List.getElem?_take, if_pos (by omega), Array.getElem?_toList]
      rw [← e, ht, Nat.mul_one]
      show ((madeCells #[.int .u32 0] n).toList)[j]? = _
      rw [toList_madeCells_one, List.getElem?_replicate, if_pos hj]
      rfl
  exact hK w1 hO ((Below.refl _ _).grown hgrow (Nat.le_refl _) (by simp)) hO.lt

/-- 'copy(out, a)', out a block of the call's own that is at least as long. -/
theorem wpList_copy_nat {ops : Array Oper} {rest : List Oper} {o : Oper} {a : Act} {Q : Exit → Act → World → Prop} {w : World}
    (hg : o.guard = none) (d s : Operand) (ho : o.op = .call { callee := .builtin .copy, args := #[d, s], argTypes := #[23, 23] })
    (g dLen dCap : Nat) (A : Option Addr) (n c : Nat) (hd : a.eval d = .slice (some ⟨g, 0, none⟩) dLen dCap) (hs : a.eval s = .slice A n c)
    (os xs : List Nat) (Bd : Nat) (hown : Own w g os) (hlen : os.length = dLen) (hrd : Rd w Bd A n c xs) (hn : n ≤ dLen) (B : Nat) (w0 : World) (hb : Below B w0 w) (hBg : B ≤ g)
    (hK : ∀ w', Own w' g (xs ++ os.drop n) → Below B w0 w' → wpList Try.prog ops Q rest (a.put o.dst (goInt n)) w') :
    wpList Try.prog ops Q (o :: rest) a w := by
  obtain ⟨cur, hcur, hc⟩ := hown.blk
  have hxl := hrd.len
  have hsz : os.length ≤ cur.size := by
    rcases Nat.eq_zero_or_pos os.length with h | h
    · omega
    · have := (Array.getElem?_eq_some_iff.1 (hc (os.length - 1) (by omega))).1
      omega
  refine wpList_copy_splice hg d s _ _ ho 39 Try.underlying23 Try.sizeLimb (some ⟨g, 0, none⟩) A dLen dCap n c hd hs g 0 cur.toList 39 (by simpa using hcur)
    (xs.map fun x : Nat => Value.int .u32 (x : Int)) (by rw [List.length_map, hxl]; exact (Nat.min_eq_left hn).symm) (fun h0 => ?_) (by simp; omega) (by simp [Value.oneCell']) B w0 hb hBg ?_
  · obtain ⟨ad, rfl, _, hcell⟩ := hrd.cells (by simpa [hxl] using h0)
    refine ⟨rfl, ad, rfl, fun j v hv => ?_⟩
    have hj : j < n := by
      have := (List.getElem?_eq_some_iff.1 hv).1
      simpa [hxl] using this
    rw [hcell j hj]
    rw [List.getElem?_map, lm_get? (by omega)] at hv
    simpa using hv
  · intro w' hw' hb'
    have e : (xs.map fun x : Nat => Value.int .u32 (x : Int)).length = n := by simp [hxl]
    rw [e]
    refine hK w' ⟨Limbs_append hrd.limbs (Limbs_drop hown.limbs n), _, hw'.out, fun j hj => ?_⟩ hb'
    rw [lm_append, hxl]
    simp only [List.length_append, List.length_drop, hxl] at hj
    simp only [List.getElem?_toArray, splice, List.take_zero, List.nil_append, List.getElem?_append, e]
    by_cases h : j < n
    · rw [if_pos h, if_pos h, List.getElem?_map, lm_get? (by omega)]
      rfl
    · rw [if_neg h, if_neg h, lm_drop]
      rw [List.getElem?_drop, Array.getElem?_toList]
      have := hc j (by omega)
      rw [show 0 + n + (j - n) = j by omega, show n + (j - n) = j by omega]
      exact this

/-- a quiet call in a region that draws, wherever its draws began -/
theorem quiet_in {P : Program} {f : FuncId} {args : Array Value} {W V : World} {v : Value} (h : Calls P f args W fun e w' => e = .returned v ∧ w' = W) (hW : ∃ m, W = V.drewN m) :
    Calls P f args W fun e w' => e = .returned v ∧ ∃ m, w' = V.drewN m :=
  h.mono fun _ _ ⟨he, hw⟩ => ⟨he, by rw [hw]; exact hW⟩

/-- A value was handed back; the world is as it was, but for draws. -/
def RetQ (w : World) (v : Value) (e : Ending) (w' : World) : Prop := e = .returned v ∧ ∃ q, w' = w.drewN q

/-- A number was handed back: limbs without high zeros, readable; of what was there nothing has turned. -/
def RetNat (w : World) (m : Nat) (e : Ending) (w' : World) : Prop :=
  ∃ A c, e = .returned (.slice A (dig m).length c) ∧ Rd w' w'.heap.size A (dig m).length c (dig m) ∧ Below w.heap.size w w'
/-- The same, and it lies in a block of its own, which the caller may write. -/
def RetOwn (w : World) (m : Nat) (e : Ending) (w' : World) : Prop :=
  e = .returned (.slice (some ⟨w.heap.size, 0, none⟩) (dig m).length (dig m).length) ∧ Own w' w.heap.size (dig m) ∧ Below w.heap.size w w' ∧ (dig m).length ≤ 70368744177664
theorem RetOwn.nat {w : World} {m : Nat} {e : Ending} {w' : World} (h : RetOwn w m e w') : RetNat w m e w' :=
  ⟨_, _, h.1, h.2.1.rd0 (Nat.le_refl _) h.2.2.2 h.2.1.lt, h.2.2.1⟩
end

section
open Go.RowKit

theorem trim_len {w : World} {Bd : Nat} {A : Option Addr} {n c : Nat} {xs : List Nat} (h : Rd w Bd A n c xs) {k : Nat} (hk : k ≤ n) (h0 : ∀ j, k ≤ j → j < n → lm xs j = 0) (h1 : k = 0 ∨ lm xs (k - 1) ≠ 0) : (dig (val xs)).length = k := by
  rw [← take_dig h.limbs (n := k) (by rw [h.len]; exact hk) (fun j a b => h0 j a (by rw [← h.len]; exact b)) h1, List.length_take, h.len]
  omega

set_option maxHeartbeats 400000 in
theorem trim_any (w : World) (Bd : Nat) (A : Option Addr) (n c : Nat) (xs : List Nat) (h : Rd w Bd A n c xs) :
    Calls Try.prog 84 #[.slice A n c] w fun e w' => e = .returned (.slice A (dig (val xs)).length c) ∧ w = w' := by
  have hcap := h.cap
  have hbig := h.big
  have H := hide h
  clear h
  go_enter Try.func84, Try.ntmps84
  go_wp2
  go_loop [3] (fun i => ∃ k : Nat, k ≤ n ∧ i = .int .i64 k ∧ Hid (∀ j, k ≤ j → j < n → lm xs j = 0)) (fun i => (intOf i).toNat)
  case atStart => exact ⟨n, Nat.le_refl _, rfl, fun j a b => by omega⟩
  case round =>
    obtain ⟨k, hk, rfl, h0⟩ := hrel
    by_cases hpos : 0 < k
    · obtain ⟨ad, rfl, hb, hcell⟩ := H.out.at_ (k := k - 1) (by omega)
      by_cases hz : lm xs (k - 1) = 0
      · have hz' : ((lm xs (k - 1) : Int) == 0) = true := by rw [hz]; rfl
        have HZ := hide hz
        clear hz
        go_wp2
        go_round
        case rel =>
          refine ⟨k - 1, by omega, by go_num, hide fun j a b => ?_⟩
          by_cases hj : j = k - 1
          · subst hj; exact HZ.out
          · exact h0.out j (by omega) b
        case measure => simp [intOf]; omega
      · have hz' : ((lm xs (k - 1) : Int) == 0) = false := by simpa using hz
        have HZ := hide hz
        clear hz
        go_wp2
        go_ret
        rw [trim_len H.out hk h0.out (Or.inr HZ.out)]
        exact ⟨rfl, rfl⟩
    · have hk0 : k = 0 := by omega
      subst hk0
      go_wp2
      go_ret
      rw [trim_len H.out hk h0.out (Or.inl rfl)]
      exact ⟨rfl, rfl⟩

/-- the same, its length under a name -/
theorem trim_to (w : World) (Bd : Nat) (A : Option Addr) (n c : Nat) (xs : List Nat) (h : Rd w Bd A n c xs) (m : Nat) (hm : (dig (val xs)).length = m) :
    Calls Try.prog 84 #[.slice A n c] w fun e w' => e = .returned (.slice A m c) ∧ w = w' := by
  subst hm
  exact trim_any w Bd A n c xs h

/-- A number that is to be trimmed: its digits X, so many, lie at the same place. -/
theorem Rd.trimmed {w : World} {Bd : Nat} {A : Option Addr} {n c : Nat} {xs : List Nat} (h : Rd w Bd A n c xs) :
    ∃ X m, Hid ((dig (val xs)).length = m) ∧ Rd w Bd A m c X ∧ m ≤ n ∧ Hid (val X = val xs) ∧ Hid (X = dig (val xs)) :=
  ⟨_, _, hide rfl, h.trim, by rw [← h.len]; exact dig_len_val h.limbs, hide (val_dig _), hide rfl⟩
end

section
open Go.RowKit

set_option maxHeartbeats 400000 in
theorem of_any (w : World) (n : Nat) (hn : n < 18446744073709551616) : Calls Try.prog 53 #[.int .u64 (n : Int)] w (RetNat w n) := by
  go_enter Try.func53, Try.ntmps53
  have hl : (dig n).length ≤ 2 := (dig_len_le _ _).2 (by simp only [pw]; omega)
  have hv : Hid (val [n % 4294967296, n / 4294967296] = n) := hide (by simp only [val_cons, val_nil]; omega)
  have H : ∀ W : World, Rd (W.alloc (Obj.cells #[Value.int IntKind.u32 (↑n % 4294967296), Value.int IntKind.u32 (↑n / 4294967296)] 39)) (W.heap.size + 1) (some ⟨W.heap.size, 0, none⟩) 2 2 [n % 4294967296, n / 4294967296] := by
    intro W
    refine ⟨rfl, Limbs_cons (by omega) (Limbs_cons (by omega) Limbs_nil), by omega, by omega, by omega, fun _ => ⟨_, rfl, by simp, fun j hj => ?_⟩⟩
    rw [Addr.add_lit]
    have e := cell_of_row (W.alloc (Obj.cells #[Value.int IntKind.u32 (↑n % 4294967296), Value.int IntKind.u32 (↑n / 4294967296)] 39)) W.heap.size (0 + j) _ _ (0, 0) (heap_alloc_new W _)
    rw [e]
    match j, hj with
    | 0, _ => rfl
    | 1, _ => rfl
  go_wp2_with fail
  refine (trim_any _ _ _ _ _ _ (H w)).mono ?_
  rintro e w' ⟨rfl, rfl⟩
  rw [hv.out]
  go_wp2
  go_ret
  have R := (H w).trim
  rw [hv.out] at R
  exact ⟨_, _, rfl, R.more (by simp), (Below.refl _ _).alloc (Nat.le_refl _) _⟩

set_option maxHeartbeats 400000 in
theorem norm_any (w : World) (Bd : Nat) (A : Option Addr) (n c : Nat) (xs : List Nat) (h : Rd w Bd A n c xs) (hB : Bd ≤ w.heap.size) :
    Calls Try.prog 111 #[.slice A n c] w (RetOwn w (val xs)) := by
  have hcap := h.cap
  have hbig := h.big
  have hl : (dig (val xs)).length ≤ n := by rw [← h.len]; exact dig_len_val h.limbs
  have HT := hide h.trim
  have H := hide h
  clear h
  go_enter Try.func111, Try.ntmps111
  go_wp2_with (first
    | (go_at_call 84; refine (trim_any _ _ _ _ _ _ H.out).mono ?_; rintro e w' ⟨rfl, rfl⟩)
    | (at_make; refine wpList_make_nat _ rfl _ _ rfl _ _ _ _ (dig (val xs)).length rfl rfl (by omega) (by omega) (by omega) ?_; intro w1 hown hb hlt)
    | (with_reducible refine wpList_copy_nat rfl (.tmp 9) (.tmp 10) rfl _ _ _ _ _ _ rfl rfl _ (dig (val xs)) _ hown (by simp) (HT.out.below (hb.mono hB)) (Nat.le_refl _) _ _ hb (Nat.le_refl _) ?_; intro w2 hown2 hb2))
  go_ret
  rw [show (dig (val xs)) ++ List.drop (dig (val xs)).length (List.replicate (dig (val xs)).length 0) = dig (val xs) by simp] at hown2
  exact ⟨rfl, hown2, hb2, by omega⟩
end

section
open Go.RowKit

theorem compare_int (w : World) (a b : Nat) (_ha : a ≤ 9223372036854775807) (_hb : b ≤ 9223372036854775807) :
    Calls Try.prog 95 #[.int .i64 (a : Int), .int .i64 (b : Int)] w fun e w' => e = .returned (.int .i64 (cmpN a b)) ∧ w' = w := by
  rcases Nat.lt_trichotomy a b with h | h | h
  · have H := hide (cmpN_lt h)
    go_enter Try.func95, Try.ntmps95
    go_wp2
    go_ret
    rw [H.out]
    exact ⟨rfl, rfl⟩
  · subst h
    have H := hide (cmpN_eq (a := a) rfl)
    go_enter Try.func95, Try.ntmps95
    go_wp2
    go_ret
    rw [H.out]
    exact ⟨rfl, rfl⟩
  · have H := hide (cmpN_gt h)
    go_enter Try.func95, Try.ntmps95
    go_wp2
    go_ret
    rw [H.out]
    exact ⟨rfl, rfl⟩

theorem compare_u32 (w : World) (a b : Nat) :
    Calls Try.prog 108 #[.int .u32 (a : Int), .int .u32 (b : Int)] w fun e w' => e = .returned (.int .i64 (cmpN a b)) ∧ w' = w := by
  rcases Nat.lt_trichotomy a b with h | h | h
  · have H := hide (cmpN_lt h)
    go_enter Try.func108, Try.ntmps108
    go_wp2
    go_ret
    rw [H.out]
    exact ⟨rfl, rfl⟩
  · subst h
    have H := hide (cmpN_eq (a := a) rfl)
    go_enter Try.func108, Try.ntmps108
    go_wp2
    go_ret
    rw [H.out]
    exact ⟨rfl, rfl⟩
  · have H := hide (cmpN_gt h)
    go_enter Try.func108, Try.ntmps108
    go_wp2
    go_ret
    rw [H.out]
    exact ⟨rfl, rfl⟩

/-- numbers of different lengths -/
theorem cmp_len {x y : Nat} (h : (dig x).length ≠ (dig y).length) : cmpN (dig x).length (dig y).length = cmpN x y := by
  rcases Nat.lt_or_gt_of_ne h with h | h
  · rw [cmpN_lt h, cmpN_lt]
    have h1 := (dig_len_le x (dig x).length).1 (Nat.le_refl _)
    have h2 := (dig_len_lt y (dig x).length).1 h
    omega
  · rw [cmpN_gt h, cmpN_gt]
    have h1 := (dig_len_le y (dig y).length).1 (Nat.le_refl _)
    have h2 := (dig_len_lt x (dig y).length).1 h
    omega
theorem cmp_top {X Y : List Nat} {m k : Nat} (hX : Limbs X) (hY : Limbs Y) (hx : X.length = m) (hy : Y.length = m) (hk : k < m) (h0 : ∀ j, k < j → j < m → lm X j = lm Y j) (hne : lm X k ≠ lm Y k) :
    cmpN (lm X k) (lm Y k) = cmpN (val X) (val Y) := by
  rcases Nat.lt_or_gt_of_ne hne with h | h
  · rw [cmpN_lt h, cmpN_lt]
    unfold val
    rw [hx, hy]
    exact vl_lt_of_top hX hk h0 h
  · rw [cmpN_gt h, cmpN_gt]
    unfold val
    rw [hx, hy]
    exact vl_lt_of_top hY hk (fun j a b => (h0 j a b).symm) h
theorem cmp_same {X Y : List Nat} {m : Nat} (hx : X.length = m) (hy : Y.length = m) (h0 : ∀ j, 0 ≤ j → j < m → lm X j = lm Y j) : cmpN (val X) (val Y) = 0 := by
  apply cmpN_eq
  unfold val
  rw [hx, hy]
  exact vl_congr fun j hj => h0 j (Nat.zero_le _) hj

set_option maxHeartbeats 1000000 in
theorem cmp_any (w : World) (Bd : Nat) (A A' : Option Addr) (n c n' c' : Nat) (xs ys : List Nat) (hx : Rd w Bd A n c xs) (hy : Rd w Bd A' n' c' ys) :
    Calls Try.prog 76 #[.slice A n c, .slice A' n' c'] w (RetQ w (.int .i64 (cmpN (val xs) (val ys)))) := by
  obtain ⟨X, m, hm, HX, hmn, hvx, hdx⟩ := hx.trimmed
  obtain ⟨Y, m', hm', HY, hmn', hvy, hdy⟩ := hy.trimmed
  have hcap := HX.cap
  have hbig := HX.big
  have hcap' := HY.cap
  have hbig' := HY.big
  replace HX := hide HX
  replace HY := hide HY
  have H := hide hx
  have H' := hide hy
  clear hx hy
  by_cases hne : m = m'
  · subst hne
    go_enter Try.func76, Try.ntmps76
    go_wp2_with (first
      | (go_at_call 84; ((with_reducible refine (trim_to _ Bd A n c xs H.out m hm.out).mono ?_); rintro e w' ⟨rfl, rfl⟩))
      | (go_at_call 84; ((with_reducible refine (trim_to _ Bd A' n' c' ys H'.out m hm'.out).mono ?_); rintro e w' ⟨rfl, rfl⟩)))
    go_loopw [5] (fun i wr => ∃ z : Int, -1 ≤ z ∧ z < m ∧ i = .int .i64 z ∧ Hid (∀ j : Nat, z < j → j < m → lm X j = lm Y j) ∧ ∃ q, wr = w.drewN q) (fun i _ => (intOf i + 1).toNat)
    case atStart => exact ⟨(m : Int) - 1, by omega, by omega, rfl, hide fun j a b => by omega, 0, rfl⟩
    case round =>
      obtain ⟨z, hz1, hz2, rfl, h0, q, rfl⟩ := hrel
      by_cases hpos : 0 ≤ z
      · obtain ⟨k, rfl⟩ : ∃ k : Nat, z = k := ⟨z.toNat, by omega⟩
        have hk : k < m := by omega
        obtain ⟨ad, rfl, hadb, hca⟩ := HX.out.at_ hk
        obtain ⟨ad', rfl, hadb', hca'⟩ := HY.out.at_ hk
        by_cases heq : lm X k = lm Y k
        · have HE := hide heq
          have hd : ((lm X k : Int) != (lm Y k : Int)) = false := by simp [heq]
          clear heq
          go_wp2_with fail
          go_quiet (fail)
          go_wp2
          go_roundw
          case rel =>
            refine ⟨(k : Int) - 1, by omega, by omega, by go_num, hide fun j a b => ?_, _, rfl⟩
            by_cases hj : j = k
            · subst hj; exact HE.out
            · exact h0.out j (by omega) b
          case measure => simp [intOf]
        · have HE := hide heq
          have hd : ((lm X k : Int) != (lm Y k : Int)) = true := by simp; omega
          clear heq
          have hT := hide (cmp_top HX.out.limbs HY.out.limbs HX.out.len HY.out.len (k := k) (by omega) (fun j a b => h0.out j (by omega) b) HE.out)
          go_wp2_with fail
          go_quiet (fail)
          have e1 : ((w.drewN q).drewN nq).cell? (ad.add k) = some (.int .u32 (lm X k : Int)) := hca
          have e2 : ((w.drewN q).drewN nq).cell? (ad'.add k) = some (.int .u32 (lm Y k : Int)) := hca'
          have hW : ∃ q', (w.drewN q).drewN nq = w.drewN q' := ⟨_, World.drewN_drewN _ _ _⟩
          clear hca hca'
          generalize (w.drewN q).drewN nq = W at *
          go_wp2_with fail
          go_quiet ((go_at_call 108; exact Calls.quiet_of_same (compare_u32 _ _ _)))
          obtain ⟨q', rfl⟩ := hW
          go_wp2
          go_ret
          rw [hT.out, hvx.out, hvy.out]
          exact ⟨rfl, _, World.drewN_drewN _ _ _⟩
      · have hz0 : z = -1 := by omega
        subst hz0
        go_wp2
        go_ret
        rw [← hvx.out, ← hvy.out, cmp_same HX.out.len HY.out.len (fun j a b => h0.out j (by omega) b)]
        exact ⟨rfl, q, rfl⟩
  · have hL : Hid (cmpN m m' = cmpN (val xs) (val ys)) := hide (by rw [← hm.out, ← hm'.out]; exact cmp_len (by rw [hm.out, hm'.out]; exact hne))
    have hne' : ((m : Int) != (m' : Int)) = true := by simp; omega
    go_enter Try.func76, Try.ntmps76
    go_wp2_with (first
      | (go_at_call 84; ((with_reducible refine (trim_to _ Bd A n c xs H.out m hm.out).mono ?_); rintro e w' ⟨rfl, rfl⟩))
      | (go_at_call 84; ((with_reducible refine (trim_to _ Bd A' n' c' ys H'.out m' hm'.out).mono ?_); rintro e w' ⟨rfl, rfl⟩))
      | (go_at_call 95; ((with_reducible refine (compare_int _ m m' (by omega) (by omega)).mono ?_); rintro e w' ⟨rfl, rfl⟩)))
    go_ret
    rw [hL.out]
    exact ⟨rfl, 0, rfl⟩
end

section
open Go.RowKit

theorem or_hi (a b : Nat) (ha : a < 4294967296) (hb : b < 4294967296) : bits .or .u64 (a : Int) ((b : Int) * 4294967296) = ((a + 4294967296 * b : Nat) : Int) := by
  have e : ((b : Int) * 4294967296) = ((b * 4294967296 : Nat) : Int) := by omega
  rw [e, u64_or_nat _ _ (by omega) (by omega), Nat.or_comm, nat_join 32 (b * 4294967296) a (by omega) (by omega)]
  omega

theorem or_lo (b : Nat) (hb : b < 4294967296) : bits .or .u64 0 (b : Int) = (b : Int) := by
  have := u64_or_nat 0 b (by omega) (by omega)
  simpa using this
theorem add_one_ (a : Addr) : a.add 1 = ⟨a.block, a.off + 1, none⟩ := by simp [Addr.add]

/-- the word after k limbs -/
def wd (xs : List Nat) : Nat → Nat
  | 0 => 0
  | 1 => lm xs 0
  | _ => lm xs 0 + 4294967296 * lm xs 1
theorem wd_two (xs : List Nat) : wd xs 2 = vl xs 2 := by simp [wd, vl, pw]

set_option maxHeartbeats 1000000 in
theorem low_any (w : World) (Bd : Nat) (A : Option Addr) (n c : Nat) (xs : List Nat) (h : Rd w Bd A n c xs) :
    Calls Try.prog 116 #[.slice A n c] w fun e w' => e = .returned (.int .u64 (vl xs 2 : Int)) ∧ w = w' := by
  have hcap := h.cap
  have hbig := h.big
  have H := hide h
  clear h
  rcases (show n = 0 ∨ n = 1 ∨ n = 2 ∨ 2 < n by omega) with h0 | h1 | h2 | h2
  · subst h0
    have hz : Hid (vl xs 2 = 0) := hide (by simp only [vl, pw]; rw [lm_ge (by rw [H.out.len]; omega), lm_ge (by rw [H.out.len]; omega)])
    go_enter Try.func116, Try.ntmps116
    go_wp2
    refine wp_loop_rounds 1 ?_
    rw [rounds_succ]
    go_wp2
    go_ret
    rw [hz.out]
    exact ⟨rfl, rfl⟩
  · subst h1
    have hz : Hid (vl xs 2 = lm xs 0) := hide (by simp only [vl, pw]; rw [lm_ge (k := 1) (by rw [H.out.len]; omega)]; omega)
    obtain ⟨ad, rfl, hadb, hca⟩ := H.out.at_ (k := 0) (by omega)
    rw [add_zero_] at hca
    have hl := H.out.limbs 0
    have hb0 := or_lo _ hl
    go_enter Try.func116, Try.ntmps116
    go_wp2
    refine wp_loop_rounds 2 ?_
    rw [rounds_succ]
    go_wp2
    rw [rounds_succ]
    go_wp2
    go_ret
    rw [hz.out]
    exact ⟨rfl, rfl⟩
  · subst h2
    have hz := hide (wd_two xs)
    obtain ⟨ad, rfl, hadb, hca⟩ := H.out.at_ (k := 0) (by omega)
    obtain ⟨ad', had, hadb', hca2⟩ := H.out.at_ (k := 1) (by omega)
    obtain rfl : ad = ad' := by simpa using had
    clear had
    rw [add_zero_] at hca
    rw [add_one_] at hca2
    have hl := H.out.limbs 0
    have hl1 := H.out.limbs 1
    have hb0 := or_lo _ hl
    have hb1 := or_hi _ _ hl hl1
    go_enter Try.func116, Try.ntmps116
    go_wp2
    refine wp_loop_rounds 3 ?_
    rw [rounds_succ]
    go_wp2
    rw [rounds_succ]
    go_wp2
    rw [rounds_succ]
    go_wp2
    go_ret
    rw [← hz.out]
    exact ⟨rfl, rfl⟩
  · have h2 := h2
    have hz := hide (wd_two xs)
    obtain ⟨ad, rfl, hadb, hca⟩ := H.out.at_ (k := 0) (by omega)
    obtain ⟨ad', had, hadb', hca2⟩ := H.out.at_ (k := 1) (by omega)
    obtain rfl : ad = ad' := by simpa using had
    clear had
    rw [add_zero_] at hca
    rw [add_one_] at hca2
    have hl := H.out.limbs 0
    have hl1 := H.out.limbs 1
    have hb0 := or_lo _ hl
    have hb1 := or_hi _ _ hl hl1
    go_enter Try.func116, Try.ntmps116
    go_wp2
    refine wp_loop_rounds 3 ?_
    rw [rounds_succ]
    go_wp2
    rw [rounds_succ]
    go_wp2
    rw [rounds_succ]
    go_wp2
    go_ret
    rw [← hz.out]
    exact ⟨rfl, rfl⟩

end
end Go.Proofs.Ytdihgmbldnekhaa
