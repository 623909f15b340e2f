/-
  Parse, Parse2, Print, Text2, ParseAny.
-/
import Derived.Test.YtdihgmbldnekhaaNatMath
import Derived.Test.YtdihgmbldnekhaaNatSum
import Derived.Test.YtdihgmbldnekhaaNatBits
import Derived.Laws.BytesArg
namespace Go.Proofs.Ytdihgmbldnekhaa
section
open Go.RowKit

theorem is_zero (s : ByteArray) : s.toList = [48] ↔ s.size = 1 ∧ bt s 0 = 48 := by
  rw [ByteArray.toList_eq]
  obtain ⟨⟨l⟩⟩ := s
  match l with
  | [] =>
    constructor
    · intro h; cases h
    · rintro ⟨h, _⟩
      cases h
  | [a] =>
    simp only [ByteArray.size, bt]
    constructor
    · intro h
      have : a = 48 := by simpa using h
      subst this
      exact ⟨rfl, rfl⟩
    · rintro ⟨_, h⟩
      have h2 : a.toNat = 48 := h
      have : a = 48 := UInt8.toNat_inj.1 h2
      rw [this]
  | a :: b :: l =>
    constructor
    · intro h; cases h
    · rintro ⟨h, _⟩
      have h2 : (a :: b :: l).length = 1 := h
      simp at h2
theorem is_empty (s : ByteArray) : s.toList = [] ↔ s.size = 0 := by
  rw [ByteArray.toList_eq]
  obtain ⟨⟨l⟩⟩ := s
  simp [ByteArray.size]

/-- limbs as values -/
def lims (os : List Nat) : List Value := os.map fun x : Nat => Value.int .u32 (x : Int)
theorem lims_len (os : List Nat) : (lims os).length = os.length := by simp [lims]
theorem lims_get {os : List Nat} {j : Nat} (h : j < os.length) : (lims os)[j]? = some (.int .u32 (lm os j : Int)) := by
  unfold lims
  rw [List.getElem?_map, lm_get? h]
  rfl
theorem lims_set (os : List Nat) (j x : Nat) : (lims os).set j (.int .u32 (x : Int)) = lims (os.set j x) := by
  simp [lims, List.map_set]
theorem lims_snoc (os : List Nat) (x : Nat) : lims os ++ [.int .u32 (x : Int)] = lims (os ++ [x]) := by simp [lims]

/-- The slice at the head of block g, of length n and capacity c, owns the limbs os. -/
def Row (w : World) (B g n c : Nat) (os : List Nat) : Prop := w.ownsRow B 39 1 (.slice (some ⟨g, 0, none⟩) n c) n (lims os)
theorem Row.cell {w : World} {B g n c : Nat} {os : List Nat} (h : Row w B g n c os) (hl : os.length = n) {j : Nat} (hj : j < n) : w.cell? ⟨g, j, none⟩ = some (.int .u32 (lm os j : Int)) := by
  rw [World.ownsRow.cellAt h j (by omega), lims_get (by omega)]
theorem Row.put {w : World} {B g n c : Nat} {os : List Nat} (h : Row w B g n c os) {j x : Nat} {u : Int} (hu : u = (x : Int)) : Row (w.setCell ⟨g, j, none⟩ (.int .u32 u)) B g n c (os.set j x) := by
  subst hu
  have := (World.ownsRow.stored h j (.int .u32 (x : Int))).1
  rw [lims_set] at this
  exact this

/-- the product so far, and a carry q -/
def PlusRel (w : World) (B g n c : Nat) (os : List Nat) (f m k q : Nat) (wr : World) : Prop :=
  ∃ os', os'.length = os.length ∧ Limbs os' ∧ (∀ j, k ≤ j → lm os' j = lm os j) ∧ vl os' k + pw k * q = vl os k * f + m ∧ Row wr B g n c os' ∧ w.grownBy wr (some g)
theorem plus_step {os os' : List Nat} {f m k q : Nat} (hl : os'.length = os.length) (hk : k < os.length) (h0 : ∀ j, k ≤ j → lm os' j = lm os j) (h : vl os' k + pw k * q = vl os k * f + m) :
    vl (os'.set k ((q + lm os' k * f) % 4294967296)) (k + 1) + pw (k + 1) * ((q + lm os' k * f) / 4294967296) = vl os (k + 1) * f + m := by
  rw [vl_succ, vl_set _ (Nat.le_refl _), lm_set_eq _ (by omega), pw_succ, step_low, vl_succ, ← h0 k (Nat.le_refl _)]
  grind
def RetPlus (w : World) (B g n c : Nat) (os : List Nat) (f m : Nat) (e : Ending) (w' : World) : Prop :=
  ∃ (os' : List Nat) (q : Nat), e = .returned (.int .u32 (q : Int)) ∧ q < 4294967296 ∧ os'.length = os.length ∧ Limbs os' ∧ vl os' n + pw n * q = vl os n * f + m ∧ Row w' B g n c os' ∧ w.grownBy w' (some g)

end

section
open Go.RowKit

/-- a number that may have been appended to, as a slice that is read -/
theorem rd_of_own {w : World} {B : Nat} {v : Value} {os : List Nat} (h : w.ownsRow B 39 1 v os.length (lims os)) (hL : Limbs os) (hn : os.length ≤ 70368744177664) :
    ∃ A c, v = .slice A os.length c ∧ Rd w w.heap.size A os.length c os := by
  rcases h.2 with ⟨rfl, h0⟩ | ⟨g, cap, cur, rfl, hb, hh, hnc, hcm, hcs, ht⟩
  · refine ⟨none, 0, by rw [h0], ?_⟩
    have : os = [] := List.eq_nil_of_length_eq_zero h0
    subst this
    exact Rd.empty _ _ _ (by omega)
  · refine ⟨_, cap, rfl, rfl, hL, hnc, hn, hcm, fun _ => ⟨_, rfl, (Array.getElem?_eq_some_iff.1 hh).1, fun j hj => ?_⟩⟩
    rw [Addr.add_lit, Nat.zero_add, World.ownsRow.cellAt h j (by omega), lims_get hj]

/-- 'append(number, carry)' -/
theorem wpList_append_limb {ops : Array Oper} {rest : List Oper} {o : Oper} {a : Act} {Q : Exit → Act → World → Prop} {w0 w2 : World} (hgd : o.guard = none) (s x : Operand)
    (ho : o.op = .call { callee := .builtin .append, args := #[s, x], argTypes := #[23, 23] })
    (B : Nat) (v : Value) (os : List Nat) (q : Nat) (hs : a.eval s = v) (hx : a.eval x = .slice (some ⟨w2.heap.size, 0, none⟩) 1 1)
    (hown : w2.ownsRow B 39 1 v os.length (lims os)) (hn : os.length ≤ 1000000) (hB : Below B w0 w2) (hBs : B ≤ w2.heap.size)
    (h : ∀ v' w', w'.ownsRow B 39 1 v' (os ++ [q]).length (lims (os ++ [q])) → Below B w0 w' → wpList Try.prog ops Q rest (a.put o.dst v') w') :
    wpList Try.prog ops Q (o :: rest) a (w2.alloc (.cells #[.int .u32 (q : Int)] 39)) := by
  obtain ⟨i0, hi, hz0, hz1, hz2⟩ := info_parts Try.infoLimb
  have hlt := hown.lt
  refine wpList_append_own _ hgd s x 23 ho B 39 i0 (.int .u32 0) 1 4 Try.underlying23 hi hz0 hz1 hz2 rfl (by omega) v os.length (lims os) hs (hown.alloc _)
    ⟨w2.heap.size, 0, none⟩ 1 1 [.int .u32 (q : Int)] hx rfl ?_ ?_ (by simp only [maxLen]; omega) (by omega) (by simp; omega) ?_
  · intro j u hj
    match j, hj with
    | 0, hj =>
      simp at hj; subst hj
      rw [add_zero_, cell_of_row _ w2.heap.size 0 _ _ (0, 0) (heap_alloc_new w2 _)]
      rfl
  · intro u hu; simp at hu; subst hu; rfl
  · intro v' w' hown' hgrow _
    rw [lims_snoc] at hown'
    refine h v' w' (by rw [List.length_append]; exact hown') ?_
    exact (hB.alloc hBs _).grown hgrow (by simp; omega) (fun k hk => (hlt k hk).1)

/-- where the reading stands: the digits up to e - 9 are read -/
def ParRel (w : World) (s : ByteArray) (e : Nat) (v : Value) (wr : World) : Prop :=
  wr.ownsRow w.heap.size 39 1 v (dig (dvp s (e - 9))).length (lims (dig (dvp s (e - 9)))) ∧ (dvp s (e - 9) = 0 → v = .slice none 0 0) ∧ (dig (dvp s (e - 9))).length ≤ e ∧ Below w.heap.size w wr

/-- the value after the next piece -/
theorem dvp_next {s : ByteArray} {e : Nat} (h1 : 1 ≤ e) (he : e ≤ s.size) : dvp s e = dvp s (e - 9) * 1000000000 + dvp (s.extract (e - 9) e) (s.extract (e - 9) e).size := by
  have h := dvp_ext (s := s) (a := e - 9) (b := e) (k := e - (e - 9)) he (by omega)
  rw [show e - 9 + (e - (e - 9)) = e by omega] at h
  rw [size_ext he, h]
  by_cases h9 : e ≤ 9
  · have : dvp s (e - 9) = 0 := by rw [show e - 9 = 0 by omega]; rfl
    rw [this]; simp
  · rw [show e - (e - 9) = 9 by omega]
theorem piece_ok {s : ByteArray} {e : Nat} (he : e ≤ s.size) (hd : ∀ k, k < s.size → 48 ≤ bt s k ∧ bt s k ≤ 57) :
    (s.extract (e - 9) e).size ≤ 9 ∧ (∀ k, k < (s.extract (e - 9) e).size → 48 ≤ bt (s.extract (e - 9) e) k ∧ bt (s.extract (e - 9) e) k ≤ 57) ∧ dvp (s.extract (e - 9) e) (s.extract (e - 9) e).size < 1000000000 := by
  have h1 := size_ext (s := s) (a := e - 9) he
  have h2 : ∀ k, k < (s.extract (e - 9) e).size → 48 ≤ bt (s.extract (e - 9) e) k ∧ bt (s.extract (e - 9) e) k ≤ 57 := by
    intro k hk
    rw [h1] at hk
    rw [bt_ext he hk]
    exact hd _ (by omega)
  refine ⟨by omega, h2, ?_⟩
  have h3 := dvp_lt h2
  have h4 : 10 ^ (s.extract (e - 9) e).size ≤ 10 ^ 9 := Nat.pow_le_pow_right (by omega) (by omega)
  omega

def RetParse (w : World) (m : Nat) (e : Ending) (w' : World) : Prop :=
  ∃ A c, e = .returned (.tuple #[.slice A (dig m).length c, .int .i64 0]) ∧ Rd w' w'.heap.size A (dig m).length c (dig m) ∧ Below w.heap.size w w'
/-- an error, and no number -/
def RetErr (w : World) (k : Int) (e : Ending) (w' : World) : Prop := e = .returned (.tuple #[.slice none 0 0, .int .i64 k]) ∧ w = w'

end

section
open Go.RowKit

theorem Own.dig {w : World} {g : Nat} {os : List Nat} (h : Own w g os) : Own w g (dig (val os)) := by
  have hl := dig_len_val h.limbs
  refine ⟨Limbs_dig _, ?_⟩
  obtain ⟨cur, hg, hc⟩ := h.blk
  refine ⟨cur, hg, fun j hj => ?_⟩
  rw [hc j (by omega)]
  have := vl_inj h.limbs (Limbs_dig (val os)) os.length (by rw [vl_ge (Nat.le_refl _), vl_ge hl, val_dig]) j (by omega)
  rw [this]

/-- A block of N bytes of the call's own, the digits D at its end, from st on. -/
structure OwnB (w : World) (g N st : Nat) (D : List Nat) : Prop where
  len : st + D.length = N
  blk : ∃ cur : Array Value, w.heap[g]? = some (.cells cur 5 (0, 0)) ∧ cur.size = N ∧ (∀ j, j < N → ∃ x : Int, cur[j]? = some (.int .u8 x)) ∧ ∀ j, j < D.length → cur[st + j]? = some (.int .u8 (lm D j : Int))
section
variable {w w' : World} {g N st : Nat} {D : List Nat}
theorem OwnB.cell (h : OwnB w g N st D) {j : Nat} (hj : j < N) : ∃ x : Int, w.cell? ⟨g, j, none⟩ = some (.int .u8 x) := by
  obtain ⟨cur, hg, _, hc, _⟩ := h.blk
  obtain ⟨x, hx⟩ := hc j hj
  exact ⟨x, by rw [cell_of_row w g j cur _ (0, 0) hg]; exact hx⟩
theorem OwnB.digit (h : OwnB w g N st D) {j : Nat} (hj : j < D.length) : w.cell? ⟨g, st + j, none⟩ = some (.int .u8 (lm D j : Int)) := by
  obtain ⟨cur, hg, _, _, hc⟩ := h.blk
  rw [cell_of_row w g _ cur _ (0, 0) hg]
  exact hc j hj
theorem OwnB.frozen (h : OwnB w g N st D) (j : Nat) : w.frozen? ⟨g, j, none⟩ = false := by
  obtain ⟨cur, hg, _⟩ := h.blk
  exact frozen_of_row w g j cur _ hg
theorem OwnB.lt (h : OwnB w g N st D) : g < w.heap.size := by
  obtain ⟨cur, hg, _⟩ := h.blk
  exact (Array.getElem?_eq_some_iff.1 hg).1
theorem OwnB.block (h : OwnB w g N st D) (hb : w'.heap[g]? = w.heap[g]?) : OwnB w' g N st D := ⟨h.len, by
  obtain ⟨cur, hg, hc⟩ := h.blk
  exact ⟨cur, hb.trans hg, hc⟩⟩
theorem OwnB.grown {row : Option Nat} (h : OwnB w g N st D) (hb : w.grownBy w' row) (hg : some g ≠ row) : OwnB w' g N st D := h.block (hb.block g h.lt hg)
theorem OwnB.put (h : OwnB w g N (st + 1) D) {x : Nat} {u : Int} (hu : u = (x : Int)) : OwnB (w.setCell ⟨g, st, none⟩ (.int .u8 u)) g N st (x :: D) := by
  subst hu
  have hl := h.len
  refine ⟨by simp; omega, ?_⟩
  obtain ⟨cur, hg, hs, hc, hd⟩ := h.blk
  refine ⟨cur.setIfInBounds st (.int .u8 (x : Int)), heap_setCell_same w g st cur _ _ hg, by simpa using hs, fun j hj => ?_, fun j hj => ?_⟩
  · rw [Array.getElem?_setIfInBounds]
    by_cases h : st = j
    · rw [if_pos h, if_pos (by omega)]; exact ⟨_, rfl⟩
    · rw [if_neg h]; exact hc j hj
  · rw [Array.getElem?_setIfInBounds]
    cases j with
    | zero => rw [if_pos (by omega), if_pos (by omega)]; rfl
    | succ j =>
      rw [if_neg (by omega), lm_cons_succ, show st + (j + 1) = st + 1 + j by omega]
      exact hd j (by simpa using hj)
end

theorem Try.infoByte : (Try.prog.info? 5).map (fun i => (i.zero, i.size, i.bytes)) = some (some (.int .u8 0), 1, 1) := by kernel_rfl

/-- 'make([]byte, n)' -/
theorem wpList_make_bytes {ops : Array Oper} {rest : List Oper} {o : Oper} {a : Act} {Q : Exit → Act → World → Prop} (w : World)
    (hg : o.guard = none) (l c : Operand) (hop : o.op = Op.makeSlice 137 l c) (kl kc : IntKind) (L C : Int) (n : Nat) (hl : a.eval l = .int kl L) (hc : a.eval c = .int kc C) (hL : L = (n : Int)) (hC : C = (n : Int)) (hn : n ≤ 281474976710656)
    (hK : ∀ w1, OwnB w1 w.heap.size n n [] → Below w.heap.size w w1 → wpList Try.prog ops Q rest (a.put o.dst (.slice (some ⟨w.heap.size, 0, none⟩) n n)) w1) :
    wpList Try.prog ops Q (o :: rest) a w := by
  obtain ⟨i0, hi, hz0, hz1, hz2⟩ := info_parts Try.infoByte
  refine wpList_make_full w hg l c 137 hop w.heap.size 5 i0 (.int .u8 0) 1 Try.underlying137 hi hz0 hz1 kl kc L C n hl hc hL hC (by rw [hz2]; omega) (by simp only [maxLen]; omega) (Nat.le_refl _) ?_
  intro w1 hown hgrow
  have hO : OwnB w1 w.heap.size n n [] := by
    refine ⟨by simp, ?_⟩
    rcases hown.2 with ⟨h, _⟩ | ⟨g, cap, cur, hv, _, hh, hnc, hcm, hcs, ht⟩
    · simp at h
    · simp only [Value.slice.injEq, Option.some.injEq, Addr.mk.injEq, and_true, true_and] at hv
      obtain ⟨rfl, rfl⟩ := hv
      refine ⟨cur, hh, by omega, fun j hj => ⟨0, ?_⟩, fun j hj => absurd hj (by simp)⟩
      have e : (cur.toList.take (n * 1))[j]? = cur[j]? := by rw [List.getElem?_take, if_pos (by omega), Array.getElem?_toList]
      rw [← e, ht, Nat.mul_one]
      show ((madeCells #[.int .u8 0] n).toList)[j]? = _
      rw [toList_madeCells_one, List.getElem?_replicate, if_pos hj]
  exact hK w1 hO ((Below.refl _ _).grown hgrow (Nat.le_refl _) (by simp))

/-- bytes as a string -/
def strN (l : List Nat) : ByteArray := strOfNums (l.map fun x : Nat => (x : Int))

/-- the digits written so far -/
def PrRel (w : World) (g gt N V st : Nat) (D : List Nat) (wr : World) : Prop :=
  Own wr g (dig V) ∧ OwnB wr gt N st D ∧ Below w.heap.size w wr
/-- of the rest R and the digits behind it m is made -/
def PrVal (m R : Nat) (D : List Nat) : Prop := ddig m = ddig R ++ D
theorem PrVal.room {m R N st : Nat} {D : List Nat} (h : PrVal m R D) (hm : m < 10 ^ N) (hl : st + D.length = N) (hR : R ≠ 0) : 0 < st := by
  have h1 := (ddig_len N m).2 hm
  rw [h, List.length_append] at h1
  have := ddig_len_pos hR
  omega
theorem PrVal.step {m V c i : Nat} {D : List Nat} (h : PrVal m (V * 10 ^ (9 - i) + c) D) (hi : i < 9) (h0 : V * 10 ^ (9 - i) + c ≠ 0) : PrVal m (V * 10 ^ (9 - (i + 1)) + c / 10) ((48 + c % 10) :: D) := by
  unfold PrVal at *
  rw [h, ddig_pos h0, (rest_step V c i hi).1, (rest_step V c i hi).2]
  simp

set_option maxHeartbeats 2000000 in
theorem print_any (w : World) (Bd : Nat) (A : Option Addr) (n c : Nat) (xs : List Nat) (h : Rd w Bd A n c xs) (hB : Bd ≤ w.heap.size) (hn : n ≤ 17592186044416) :
    Calls Try.prog 107 #[.slice A n c] w fun e w' => e = .returned (.string (strN (dec (val xs)))) ∧ Below w.heap.size w w' := by
  have hl : (dig (val xs)).length ≤ n := by rw [← h.len]; exact dig_len_val h.limbs
  have H := hide h
  clear h
  obtain ⟨m, hm⟩ : ∃ m, m = val xs := ⟨_, rfl⟩
  rw [← hm] at hl ⊢
  replace hm := hide hm
  obtain ⟨L, hL⟩ : ∃ L, L = (dig m).length := ⟨_, rfl⟩
  by_cases h0 : m = 0
  · have hnorm := norm_any w Bd A n c xs H.out hB
    rw [← hm.out, h0, show (RetOwn w 0) = (fun e w' => RetOwn w 0 e w') from rfl] at hnorm
    have hdec : Hid (strN (dec m) = ⟨#[48]⟩) := hide (by rw [h0]; rfl)
    replace hnorm := hide hnorm
    replace hm := hide hm
    clear hL hl
    go_enter Try.func107, Try.ntmps107
    go_wp2_with fail
    refine hnorm.out.mono ?_
    rintro e w1 ⟨rfl, hown, hb, hlm⟩
    rw [dig_zero]
    replace hown := hide hown
    replace hb := hide hb
    clear hlm
    go_wp2
    go_ret
    rw [hdec.out]
    exact ⟨rfl, hb.out⟩
  · rw [← hL] at hl
    have hL0 : 0 < L := by
      rw [hL]
      rcases Nat.eq_zero_or_pos (dig m).length with h | h
      · exact absurd (dig_len_zero.1 h) h0
      · exact h
    have hten : Hid (m < 10 ^ (10 * L)) := hide (by
      have h1 := (dig_len_le m L).1 (by omega)
      have h2 := pw_le_ten L
      omega)
    have hdec : Hid (dec m = ddig m) := hide (by unfold dec; rw [if_neg h0])
    replace hL := hide hL
    replace h0 := hide h0
    have hnorm := fun (W : World) (hR : Rd W Bd A n c xs) (hb : Bd ≤ W.heap.size) => norm_any W Bd A n c xs hR hb
    rw [← hm.out] at hnorm
    replace hnorm := hide hnorm
    go_enter Try.func107, Try.ntmps107
    go_wp2_with fail
    refine (hnorm.out w H.out hB).mono ?_
    rintro e w1 ⟨rfl, hown, hb, hlm⟩
    rw [← hL.out] at hlm ⊢
    replace hown := hide hown
    have hs1 : w.heap.size < w1.heap.size := hown.out.lt
    replace hb := hide hb
    go_wp2_with (at_make; refine wpList_make_bytes _ rfl _ _ rfl _ _ _ _ (10 * L) rfl rfl (by omega) (by omega) (by omega) ?_; intro w2 hownB hb2)
    have hgt : w.heap.size < w1.heap.size := hs1
    generalize w1.heap.size = gt at *
    have hstart := hide (show PrRel w w.heap.size gt (10 * L) m (10 * L) [] w2 from ⟨hown.out.below hb2 hgt, hownB, hb.out.trans (hb2.mono (by omega))⟩)
    clear hb2 hownB
    go_loopw [3, 5] (fun left start wr => ∃ (V Lv cap st : Nat) (D : List Nat), left = .slice (some ⟨w.heap.size, 0, none⟩) Lv cap ∧ start = .int .i64 (st : Int) ∧ Hid (Lv = (dig V).length) ∧ Lv ≤ L ∧ Lv ≤ cap ∧ cap ≤ L ∧ (0 < Lv ↔ V ≠ 0) ∧ Hid (PrVal m V D) ∧ st ≤ 10 * L ∧ PrRel w w.heap.size gt (10 * L) V st D wr) (fun _ start _ => (intOf start).toNat)
    case atStart => exact ⟨m, L, L, 10 * L, [], rfl, by go_num, hL, by omega, by omega, by omega, ⟨fun _ => h0.out, fun _ => hL0⟩, hide (by simp [PrVal]), by omega, hstart.out⟩
    case round =>
      obtain ⟨V, Lv, cap, st, D, rfl, rfl, hLv, h1, h2, h3, h4, hV, hst, hO, hOB, hBl⟩ := hrel
      have hgs := hide hO.lt
      by_cases hV0 : V = 0
      · have hLz : Lv = 0 := by
          rcases Nat.eq_zero_or_pos Lv with h | h
          · exact h
          · exact absurd hV0 (h4.1 h)
        have hlenB := hOB.len
        have hD : Hid (dec m = D) := hide (by
          rw [hdec.out]
          have := hV.out
          rw [hV0] at this
          unfold PrVal at this
          rw [this, ddig_zero]; simp)
        have hcv := run_convert_bytes_arg (P := Try.prog) wr 137 5 Try.underlying137 Try.underlying5 gt st (10 * L - st) (10 * L - st) (D.map fun x : Nat => (x : Int)) (by rw [List.length_map]; omega) (fun i hi => by
          rw [hOB.digit (by omega)]
          simp [lm, show i < D.length by omega]) 9 Try.underlying9
        replace hO := hide hO
        replace hOB := hide hOB
        replace hBl := hide hBl
        replace h4 := hide h4
        replace hV0 := hide hV0
        have hlt : st < 10 * L := by
          have h5 := ddig_len_pos h0.out
          rw [← hdec.out, hD.out] at h5
          omega
        clear hlenB
        subst hLz
        go_wp2
        go_ret
        rw [hD.out]
        exact ⟨rfl, hBl.out⟩
      · have hLp := h4.2 hV0
        have hDiv : ∀ (W : World) (_ : Own W w.heap.size (dig V)), Calls Try.prog 112 #[.slice (some ⟨w.heap.size, 0, none⟩) Lv cap, .int .u32 1000000000] W (RetDiv W w.heap.size (dig V) 1000000000) := fun W hOw => divideByLimb_any W w.heap.size Lv cap (dig V) 1000000000 hOw hLv.out.symm (by omega) (by omega) (by omega)
        replace hDiv := hide hDiv
        replace hO := hide hO
        replace hOB := hide hOB
        replace hBl := hide hBl
        replace h4 := hide h4
        replace hV0 := hide hV0
        go_wp2_with fail
        refine (hDiv.out wr hO.out).mono ?_
        rintro e' w3 ⟨os', rfl, hlo, hvo, hO3, hgr⟩
        rw [val_dig] at hvo
        have hR3 := hO3.rd0 (c := cap) (by rw [hlo, ← hLv.out]; exact h2) (by omega) (B := w3.heap.size) hO3.lt
        rw [hlo, ← hLv.out] at hR3
        have hO4 := hO3.dig
        rw [hvo] at hO4
        obtain ⟨U, hU⟩ : ∃ U, U = V / 1000000000 := ⟨_, rfl⟩
        obtain ⟨cc, hcc⟩ : ∃ cc, cc = val (dig V) % 1000000000 := ⟨_, rfl⟩
        have hccl : cc < 1000000000 := by rw [hcc]; omega
        rw [← hcc]
        rw [val_dig] at hcc
        rw [← hU] at hO4 hvo
        have hVU : Hid (V = U * 10 ^ (9 - 0) + cc) := hide (by rw [hU, hcc]; omega)
        have hOB3 := hide (hOB.out.grown hgr (by simp; omega))
        have hBl3 := hide (hBl.out.grown hgr (Nat.le_of_lt hgs.out) (by simp))
        obtain ⟨Lu, hLu⟩ : ∃ Lu, Lu = (dig U).length := ⟨_, rfl⟩
        have hLuL : Lu ≤ Lv := by
          rw [hLu, ← hvo, hLv.out, ← hlo]
          exact dig_len_val hO3.limbs
        have hU4 : 0 < Lu ↔ U ≠ 0 := by
          have := dig_len_zero (n := U)
          rw [← hLu] at this
          omega
        have hvo' : (dig (val os')).length = Lu := by rw [hvo, hLu]
        replace hvo' := hide hvo'
        replace hLu := hide hLu
        replace hO4 := hide hO4
        replace hR3 := hide hR3
        clear hU hcc hlo hvo hO3 hgr
        go_wp2_with (go_at_call 84; ((with_reducible refine (trim_to _ _ _ _ _ _ hR3.out Lu hvo'.out).mono ?_); rintro e' w' ⟨rfl, rfl⟩))
        have hst3 := hide (show PrRel w w.heap.size gt (10 * L) U st D w3 from ⟨hO4.out, hOB3.out, hBl3.out⟩)
        have hVi := hide (show PrVal m (U * 10 ^ (9 - 0) + cc) D by rw [← hVU.out]; exact hV.out)
        have hne := hide (show U * 10 ^ (9 - 0) + cc ≠ 0 by rw [← hVU.out]; exact hV0.out)
        clear hO4 hOB3 hBl3 hO hOB hBl hDiv hR3 hV hVU
        go_loopw [5, 6, 7] (fun start ch i wr => ∃ (st' q j : Nat) (D' : List Nat), start = .int .i64 (st' : Int) ∧ ch = .int .u32 (q : Int) ∧ i = .int .i64 (j : Int) ∧ j ≤ 9 ∧ q < 1000000000 ∧ Hid (q < 10 ^ (9 - j)) ∧ Hid (PrVal m (U * 10 ^ (9 - j) + q) D') ∧ st' ≤ 10 * L ∧ st' ≤ st ∧ (j = 0 → U * 10 ^ (9 - 0) + q ≠ 0) ∧ (j ≠ 0 → st' < st) ∧ PrRel w w.heap.size gt (10 * L) U st' D' wr) (fun _ _ i _ => 9 - (intOf i).toNat)
        case atStart => exact ⟨st, cc, 0, D, rfl, rfl, rfl, by omega, hccl, hide (by simpa using hccl), hVi, hst, by omega, fun _ => hne.out, by omega, hst3.out⟩
        case round =>
          obtain ⟨st', q, j, D', rfl, rfl, rfl, hj, hq, hq9, hPV, hst1, hst2, hj0, hj1, hO5, hOB5, hBl5⟩ := hrel
          have hgs5 := hide hO5.lt
          have hlenB := hOB5.len
          by_cases hc : j < 9 ∧ (0 < q ∨ 0 < Lu)
          · obtain ⟨hj9, hor⟩ := hc
            have hR : U * 10 ^ (9 - j) + q ≠ 0 := by
              rcases hor with h | h
              · omega
              · have h5 := hU4.1 h
                have h6 : 0 < 10 ^ (9 - j) := Nat.pow_pos (by omega)
                have h7 := Nat.mul_pos (Nat.pos_of_ne_zero h5) h6
                omega
            have hroom := hPV.out.room hten.out hlenB hR
            obtain ⟨t, rfl⟩ : ∃ t, st' = t + 1 := ⟨st' - 1, by omega⟩
            obtain ⟨x, hcell⟩ := hOB5.cell (j := t) (by omega)
            have hfro := hOB5.frozen t
            have hnext := hide (hPV.out.step hj9 hR)
            have hq10 : Hid (q / 10 < 10 ^ (9 - (j + 1))) := hide (by
              have h5 := hq9.out
              have e : 10 ^ (9 - j) = 10 ^ (9 - (j + 1)) * 10 := by rw [← Nat.pow_succ]; congr 1; omega
              rw [e] at h5
              omega)
            replace hO5 := hide hO5
            replace hOB5 := hide hOB5
            replace hBl5 := hide hBl5
            replace hj0 := hide hj0
            replace hj1 := hide hj1
            replace hU4 := hide hU4
            clear hR hroom hlenB
            rcases (show 0 < q ∨ (¬ 0 < q ∧ 0 < Lu) by omega) with hor2 | ⟨hor2, hor3⟩
            all_goals
              clear hor
              go_wp2
              go_roundw
              case rel =>
                refine ⟨t, q / 10, j + 1, (48 + q % 10) :: D', rfl, by go_num, by go_num, by omega, by omega, hq10, hnext, by omega, by omega, by omega, fun _ => by omega, hO5.out.block (Below.heap_setCell _ _ _ _ (by simp; omega)), hOB5.out.put (by omega), hBl5.out.setCell (by simp; omega) _⟩
              case measure => simp [intOf]; omega
          · have hR : U * 10 ^ (9 - j) + q = U := by
              by_cases hj9 : j = 9
              · subst hj9
                have := hq9.out
                simp at this ⊢
                exact this
              · have hq0 : q = 0 := by omega
                have hLu0 : ¬ 0 < Lu := by omega
                have hU0 : U = 0 := by
                  apply Classical.byContradiction
                  intro h
                  exact hLu0 (hU4.2 h)
                rw [hq0, hU0]; simp
            have hj0' : j ≠ 0 := by
              rintro rfl
              have h5 := hj0 rfl
              rw [hR] at h5
              exact hc ⟨by omega, Or.inr (hU4.2 h5)⟩
            have hsl := hj1 hj0'
            have hPV2 := hide (show PrVal m U D' by have := hPV.out; rw [hR] at this; exact this)
            replace hO5 := hide hO5
            replace hOB5 := hide hOB5
            replace hBl5 := hide hBl5
            have hU5 := hide hU4
            clear hR hj0 hj1 hj0' hlenB hPV hU4
            rcases (show 9 ≤ j ∨ (j < 9 ∧ ¬ 0 < q ∧ ¬ 0 < Lu) by omega) with hd | ⟨hd1, hd2, hd3⟩
            all_goals
              clear hc
              go_wp2
              go_roundw
              case rel => exact ⟨U, Lu, cap, st', D', rfl, rfl, hLu, by omega, by omega, h3, hU5.out, hPV2, by omega, hO5.out, hOB5.out, hBl5.out⟩
              case measure => simp [intOf]; omega
end

section
open Go.RowKit

/-- the value of a list of digits -/
def dvL (l : List Nat) : Nat := l.foldl (fun v b => v * 10 + (b - 48)) 0
theorem dvL_snoc (l : List Nat) (b : Nat) : dvL (l ++ [b]) = dvL l * 10 + (b - 48) := by simp [dvL, List.foldl_append]
theorem dvL_ddig (n : Nat) : dvL (ddig n) = n := by
  induction n using Nat.strongRecOn with
  | _ n ih =>
    by_cases h : n = 0
    · subst h; rw [ddig_zero]; rfl
    · rw [ddig_pos h, dvL_snoc, ih _ (by omega)]; omega
theorem dvL_dec (n : Nat) : dvL (dec n) = n := by
  unfold dec
  split
  · rename_i h; rw [h]; rfl
  · exact dvL_ddig n
theorem dec_byte (n : Nat) : ∀ b ∈ dec n, 48 ≤ b ∧ b ≤ 57 := by
  unfold dec
  split
  · intro b hb; simp at hb; omega
  · exact ddig_byte n
theorem dec_pos (n : Nat) : 0 < (dec n).length := by
  unfold dec
  split
  · simp
  · rename_i h; exact ddig_len_pos h
theorem ddig_head {n : Nat} (h : n ≠ 0) : lm (ddig n) 0 ≠ 48 := by
  induction n using Nat.strongRecOn with
  | _ n ih =>
    rw [ddig_pos h, lm_append]
    by_cases h2 : n / 10 = 0
    · rw [h2, ddig_zero]
      simp [lm]
      omega
    · rw [if_pos (ddig_len_pos h2)]
      exact ih _ (by omega) h2
theorem dec_one (n : Nat) : (dec n).length = 1 ∨ lm (dec n) 0 ≠ 48 := by
  unfold dec
  split
  · left; rfl
  · rename_i h; right; exact ddig_head h
/-- a digit is kept -/
theorem ddig_snoc {v b : Nat} (hb : 48 ≤ b ∧ b ≤ 57) (h : v ≠ 0 ∨ b ≠ 48) : ddig (v * 10 + (b - 48)) = ddig v ++ [b] := by
  rw [ddig_pos (by omega), show (v * 10 + (b - 48)) / 10 = v by omega, show 48 + (v * 10 + (b - 48)) % 10 = b by omega]
theorem ddig_dvL : ∀ (k : Nat) (l : List Nat), l.length = k → (∀ b ∈ l, 48 ≤ b ∧ b ≤ 57) → l ≠ [] → lm l 0 ≠ 48 → ddig (dvL l) = l ∧ dvL l ≠ 0 := by
  intro k
  induction k with
  | zero => intro l hl _ hne _; exact absurd (List.eq_nil_of_length_eq_zero hl) hne
  | succ k ih =>
    intro l hl hb hne h0
    obtain ⟨l', b, rfl⟩ : ∃ l' b, l = l' ++ [b] := ⟨l.dropLast, l.getLast hne, (List.dropLast_concat_getLast hne).symm⟩
    have hbb := hb b (by simp)
    rw [dvL_snoc]
    by_cases hl0 : l' = []
    · subst hl0
      have hb48 : b ≠ 48 := by simpa [lm] using h0
      have e : dvL [] = 0 := rfl
      rw [e, ddig_snoc hbb (Or.inr hb48), ddig_zero]
      exact ⟨rfl, by omega⟩
    · have hp : 0 < l'.length := List.length_pos_iff.2 hl0
      have h0' : lm l' 0 ≠ 48 := by rwa [lm_append, if_pos hp] at h0
      obtain ⟨i1, i2⟩ := ih l' (by simpa using hl) (fun x hx => hb x (by simp [hx])) hl0 h0'
      rw [ddig_snoc hbb (Or.inl i2), i1]
      exact ⟨rfl, by omega⟩

theorem strN_size (l : List Nat) : (strN l).size = l.length := by unfold strN; rw [strOfNums_size, List.length_map]
theorem strN_get {l : List Nat} (h : ∀ b ∈ l, b < 256) {k : Nat} (hk : k < l.length) : bt (strN l) k = lm l k := by
  have hs : k < (strN l).size := by rw [strN_size]; exact hk
  rw [← bt_get hs]
  have hb : lm l k < 256 := by rw [lm_get hk]; exact h _ (List.getElem_mem hk)
  have e : (strN l)[k] = UInt8.ofNat (lm l k) := by
    show (strN l).data[k]'_ = _
    simp only [strN, strOfNums, List.map_map, List.getElem_toArray, List.getElem_map, Function.comp, lm_get hk]
    rfl
  rw [e]
  simp [Nat.mod_eq_of_lt hb]
theorem dvp_strN {l : List Nat} (h : ∀ b ∈ l, b < 256) {k : Nat} (hk : k ≤ l.length) : dvp (strN l) k = dvL (l.take k) := by
  induction k with
  | zero => rfl
  | succ k ih =>
    rw [dvp_succ, ih (by omega), strN_get h (by omega), List.take_add_one, lm_get (by omega)]
    rw [List.getElem?_eq_getElem (by omega)]
    simp only [Option.toList_some]
    rw [dvL_snoc]
theorem dec_lt (n : Nat) : ∀ b ∈ dec n, b < 256 := fun b hb => by have := dec_byte n b hb; omega
theorem dec_isNum (n : Nat) : IsNum (strN (dec n)) := by
  refine ⟨fun k hk => ?_, by rw [strN_size]; exact dec_pos n, ?_⟩
  · rw [strN_size] at hk
    rw [strN_get (dec_lt n) hk, lm_get hk]
    exact dec_byte n _ (List.getElem_mem hk)
  · rw [strN_size, strN_get (dec_lt n) (dec_pos n)]
    exact dec_one n
theorem dec_val (n : Nat) : dvp (strN (dec n)) (strN (dec n)).size = n := by
  rw [strN_size, dvp_strN (dec_lt n) (Nat.le_refl _), List.take_length, dvL_dec]

/-- the bytes of a string -/
def bts (s : ByteArray) : List Nat := s.data.toList.map UInt8.toNat
theorem bts_len (s : ByteArray) : (bts s).length = s.size := by unfold bts; rw [List.length_map, Array.length_toList]; rfl
theorem bts_lm {s : ByteArray} {k : Nat} (h : k < s.size) : lm (bts s) k = bt s k := by
  rw [lm_get (by rw [bts_len]; exact h), ← bt_get h]
  simp only [bts, List.getElem_map, Array.getElem_toList]
  rfl
theorem strN_bts (s : ByteArray) : strN (bts s) = s := by
  unfold strN strOfNums bts
  obtain ⟨⟨l⟩⟩ := s
  simp [Function.comp_def]
theorem bts_lt (s : ByteArray) : ∀ b ∈ bts s, b < 256 := by
  intro b hb
  obtain ⟨c, _, rfl⟩ := List.mem_map.1 hb
  exact UInt8.toNat_lt c
theorem num_dec {s : ByteArray} (h : IsNum s) : strN (dec (dvp s s.size)) = s := by
  obtain ⟨hd, hp, h0⟩ := h
  have e : dvp s s.size = dvL (bts s) := by
    have := dvp_strN (bts_lt s) (Nat.le_refl (bts s).length)
    rw [strN_bts, List.take_length, bts_len] at this
    exact this
  have hl := bts_len s
  have hb : ∀ b ∈ bts s, 48 ≤ b ∧ b ≤ 57 := by
    intro b hb
    obtain ⟨i, hi, rfl⟩ := List.getElem_of_mem hb
    rw [← lm_get hi, bts_lm (by omega)]
    exact hd i (by omega)
  rw [e]
  have e2 : dec (dvL (bts s)) = bts s := by
    by_cases h48 : bt s 0 = 48
    · have h1 : s.size = 1 := by
        rcases h0 with h | h
        · exact h
        · exact absurd h48 h
      have e3 : bts s = [48] := by
        apply lm_ext (by rw [hl, h1]; rfl)
        intro k hk
        obtain rfl : k = 0 := by omega
        rw [bts_lm hp, h48]; rfl
      rw [e3]; rfl
    · obtain ⟨i1, i2⟩ := ddig_dvL _ (bts s) rfl hb (by intro h; rw [h] at hl; simp at hl; omega) (by rw [bts_lm hp]; exact h48)
      unfold dec
      rw [if_neg i2, i1]
  rw [e2, strN_bts]
end

section
open Go.RowKit

/-- what Parse gives at any string: an error, or the number -/
def RetPar (w : World) (s : ByteArray) (e : Ending) (w' : World) : Prop :=
  ∃ (A : Option Addr) (m c : Nat) (k : Int), e = .returned (.tuple #[.slice A m c, .int .i64 k]) ∧ Below w.heap.size w w' ∧
    ((k = 0 ∧ IsNum s ∧ s.size ≤ 400 ∧ m = (dig (dvp s s.size)).length ∧ Rd w' w'.heap.size A m c (dig (dvp s s.size))) ∨ (k = 5 ∧ IsNum s ∧ 400 < s.size ∧ A = none ∧ m = 0 ∧ c = 0) ∨ (k = 2 ∧ ¬ IsNum s ∧ A = none ∧ m = 0 ∧ c = 0))
theorem ten_le_pw (k : Nat) : 10 ^ k ≤ pw k := by
  induction k with
  | zero => simp [pw]
  | succ k ih => rw [Nat.pow_succ, pw_succ]; omega
theorem dec_len {m n : Nat} (h : m < pw n) : (dec m).length ≤ 10 * n + 1 := by
  unfold dec
  split
  · simp
  · have := (ddig_len (10 * n) m).2 (by have := pw_le_ten n; omega)
    omega
end
end Go.Proofs.Ytdihgmbldnekhaa
