/-
  Comb5, Ints, CombA, CombB, ExI.
-/
import Derived.Test.YtdihgmbldnekhaaDistM
import Derived.Test.YtdihgmbldnekhaaRatN
import Derived.Laws.AppendOwn
import Derived.Test.YtdihgmbldnekhaaExRF
namespace Go.Proofs.Ytdihgmbldnekhaa
section
theorem sm_of_le {m b : Nat} (hb : b < 32000000) (h : m ≤ 2 ^ b) : Sm m := by
  unfold Sm
  rw [pw_eq]
  have hc : b < 32 * 1000000 := hb
  generalize 32 * 1000000 = c at hc ⊢
  exact Nat.lt_of_le_of_lt h (Nat.pow_lt_pow_right (by omega) hc)
theorem sm_mul {a b i j : Nat} (hi : i + j < 32000000) (ha : a ≤ 2 ^ i) (hb : b ≤ 2 ^ j) : Sm (a * b) := by
  refine sm_of_le hi ?_
  rw [Nat.pow_add]
  exact Nat.mul_le_mul ha hb
theorem prd_bnd {lo k e : Nat} (h0 : 0 < lo) (h : lo + k ≤ 201) (he : 1600 ≤ e) : prd lo k ≤ 2 ^ e := by
  refine Nat.le_trans (prd_le (m := 200) (by omega)) ?_
  refine Nat.le_trans (Nat.pow_le_pow_left (show 200 ≤ 2 ^ 8 by decide) k) ?_
  rw [← Nat.pow_mul]
  exact Nat.pow_le_pow_right (by omega) (by omega)
theorem fac_bnd {n e : Nat} (h : n ≤ 200) (he : 1600 ≤ e) : fac n ≤ 2 ^ e := by rw [← prd_one]; exact prd_bnd (by omega) (by omega) he
theorem ch_bnd {n k e : Nat} (h : n ≤ e) : ch n k ≤ 2 ^ e := Nat.le_trans (ch_le_pow n k) (Nat.pow_le_pow_right (by omega) h)
theorem mlt_bnd {l : List Nat} {e : Nat} (h : tot l ≤ 200) (he : 1600 ≤ e) : mlt 0 l ≤ 2 ^ e := Nat.le_trans (mlt_le l) (fac_bnd h he)
theorem nat_bnd {m e : Nat} (h : m < 18446744073709551616) (he : 64 ≤ e) : m ≤ 2 ^ e := Nat.le_trans (show m ≤ 2 ^ 64 by omega) (Nat.pow_le_pow_right (by omega) he)
theorem fac_sm {n : Nat} (h : n ≤ 200) : Sm (fac n) := by
  obtain ⟨e, he⟩ : ∃ e, e = 1600 := ⟨_, rfl⟩
  exact sm_of_le (b := e) (by omega) (fac_bnd h (by omega))
theorem prd_sm {lo k : Nat} (h0 : 0 < lo) (h : lo + k ≤ 201) : Sm (prd lo k) := by
  obtain ⟨e, he⟩ : ∃ e, e = 1600 := ⟨_, rfl⟩
  exact sm_of_le (b := e) (by omega) (prd_bnd h0 h (by omega))
theorem ch_sm {n k : Nat} (h : n ≤ 200) : Sm (ch n k) := by
  obtain ⟨e, he⟩ : ∃ e, e = 1600 := ⟨_, rfl⟩
  exact sm_of_le (b := e) (by omega) (ch_bnd (by omega))
theorem mlt_sm {l : List Nat} (h : tot l ≤ 200) : Sm (mlt 0 l) := by
  obtain ⟨e, he⟩ : ∃ e, e = 1600 := ⟨_, rfl⟩
  exact sm_of_le (b := e) (by omega) (mlt_bnd h (by omega))
theorem nat_sm {m : Nat} (h : m < 18446744073709551616) : Sm m := by
  obtain ⟨e, he⟩ : ∃ e, e = 1600 := ⟨_, rfl⟩
  exact sm_of_le (b := e) (by omega) (nat_bnd h (by omega))
theorem rk_sm {n f : Nat} {l : List Nat} (h : Ris n f l) (hf : f ≤ n) (hn : n ≤ 200) : Sm (rk n f l) :=
  Sm.mono (Nat.le_of_lt (rk_lt h hf)) (ch_sm (by omega))
/-- the product formula's numbers -/
theorem step_sm {n k m : Nat} (h : n ≤ 200) (hm : m < 18446744073709551616) : Sm (ch n k * m) := by
  obtain ⟨e, he⟩ : ∃ e, e = 1600 := ⟨_, rfl⟩
  exact sm_mul (i := e) (j := e) (by omega) (ch_bnd (by omega)) (nat_bnd hm (by omega))
theorem fac3_sm {a b c : Nat} (ha : a ≤ 200) (hb : b ≤ 200) (hc : c ≤ 200) : Sm (fac a * (fac b * fac c)) ∧ Sm (fac b * fac c) := by
  obtain ⟨e, he⟩ : ∃ e, e = 1600 := ⟨_, rfl⟩
  have h2 : fac b * fac c ≤ 2 ^ (e + e) := by rw [Nat.pow_add]; exact Nat.mul_le_mul (fac_bnd hb (by omega)) (fac_bnd hc (by omega))
  exact ⟨sm_mul (i := e) (j := e + e) (by omega) (fac_bnd ha (by omega)) h2, sm_of_le (b := e + e) (by omega) h2⟩
end

section
open Go.RowKit Go.Builtin

/-- element j -/
def li (xs : List Int) (j : Nat) : Int := xs.getD j 0
def I64 (z : Int) : Prop := -9223372036854775808 ≤ z ∧ z < 9223372036854775808
theorem li_get {xs : List Int} {j : Nat} (h : j < xs.length) : xs[j] = li xs j := by simp [li, List.getD, h]
theorem li_get? {xs : List Int} {j : Nat} (h : j < xs.length) : xs[j]? = some (li xs j) := by simp [li, List.getD, h]
theorem li_drop (xs : List Int) (k j : Nat) : li (xs.drop k) j = li xs (k + j) := by simp [li, List.getD]
theorem li_cons_zero (x : Int) (l : List Int) : li (x :: l) 0 = x := rfl
theorem li_cons_succ (x : Int) (l : List Int) (j : Nat) : li (x :: l) (j + 1) = li l j := rfl
theorem li_append_lt {a b : List Int} {j : Nat} (h : j < a.length) : li (a ++ b) j = li a j := by simp [li, List.getD, List.getElem?_append, h]
theorem li_append_at (a : List Int) (x : Int) : li (a ++ [x]) a.length = x := by simp [li, List.getD]
theorem li_ext {a b : List Int} (hl : a.length = b.length) (h : ∀ j, j < a.length → li a j = li b j) : a = b := by
  refine List.ext_getElem hl fun j h1 h2 => ?_
  rw [li_get h1, li_get h2, h j h1]
/-- The slice .slice A n c reads as the ints xs, all its cells below block Bd. -/
structure RdI (w : World) (Bd : Nat) (A : Option Addr) (n c : Nat) (xs : List Int) : Prop where
  len : xs.length = n
  wf : ∀ j, I64 (li xs j)
  cap : n ≤ c
  big : n ≤ 70368744177664
  cbig : c ≤ 9223372036854775807
  cells : 0 < n → ∃ ad, A = some ad ∧ ad.block < Bd ∧ ∀ j, j < n → w.cell? (ad.add j) = some (.int .i64 (li xs j))
section
variable {w w' : World} {Bd B' n c : Nat} {A : Option Addr} {xs : List Int}
theorem RdI.at_ (h : RdI w Bd A n c xs) {k : Nat} (hk : k < n) : ∃ ad, A = some ad ∧ ad.block < Bd ∧ w.cell? (ad.add k) = some (.int .i64 (li xs k)) := by
  obtain ⟨ad, e, hb, hc⟩ := h.cells (by omega)
  exact ⟨ad, e, hb, hc k hk⟩
theorem RdI.keep (h : RdI w Bd A n c xs) (hk : ∀ p : Addr, p.block < Bd → w'.cell? p = w.cell? p) : RdI w' Bd A n c xs :=
  ⟨h.len, h.wf, h.cap, h.big, h.cbig, fun hn => by
    obtain ⟨ad, e, hb, hc⟩ := h.cells hn
    exact ⟨ad, e, hb, fun j hj => (hk _ (by rw [block_add]; exact hb)).trans (hc j hj)⟩⟩
theorem RdI.more (h : RdI w Bd A n c xs) (hB : Bd ≤ B') : RdI w B' A n c xs :=
  ⟨h.len, h.wf, h.cap, h.big, h.cbig, fun hn => by
    obtain ⟨ad, e, hb, hc⟩ := h.cells hn
    exact ⟨ad, e, by omega, hc⟩⟩
theorem RdI.below (h : RdI w Bd A n c xs) (hb : Below Bd w w') : RdI w' Bd A n c xs := h.keep fun _ hp => hb.cell hp
theorem RdI.then_ (h : RdI w w.heap.size A n c xs) (hb : Below w.heap.size w w') : RdI w' w'.heap.size A n c xs := (h.below hb).more hb.size
theorem RdI.upto (h : RdI w Bd A n c xs) (hb : Below w.heap.size w w') (hB : Bd ≤ w.heap.size) : RdI w' w'.heap.size A n c xs := (h.more hB).then_ hb
theorem RdI.empty (w : World) (Bd : Nat) (A : Option Addr) {c : Nat} (hc : c ≤ 9223372036854775807) : RdI w Bd A 0 c [] :=
  ⟨rfl, fun j => (by simp [li, I64]), Nat.zero_le _, by omega, hc, fun h => absurd h (by omega)⟩
end
/-- a list was handed back beside a bool -/
def RetLB (w : World) (xs : List Int) (ok : Bool) (e : Ending) (w' : World) : Prop :=
  ∃ A n c, e = .returned (.tuple #[.slice A n c, .bool ok]) ∧ RdI w' w'.heap.size A n c xs ∧ Below w.heap.size w w'

/-- v is a list of the call's own: nil, or a block from number B on, of ints alone -/
def OwnI (w : World) (B : Nat) (v : Value) (xs : List Int) : Prop :=
  w.ownsRow B 3 1 v xs.length (xs.map (Value.int .i64)) ∧ (∀ j, I64 (li xs j)) ∧
    ∀ g, v.ownBlock = some g → ∃ cur, w.heap[g]? = some (.cells cur 3 (0, 0)) ∧ ∀ (j : Nat) u, cur[j]? = some u → ∃ z, u = .int .i64 z
theorem OwnI.nil (w : World) (B : Nat) : OwnI w B (.slice none 0 0) [] :=
  ⟨World.ownsRow_nil _ _ _ _, fun j => (by simp [li, I64]), fun g h => by simp [Value.ownBlock] at h⟩
theorem OwnI.kept {w w' : World} {B : Nat} {v : Value} {xs : List Int} (h : OwnI w B v xs) (hb : ∀ g, v.ownBlock = some g → w'.heap[g]? = w.heap[g]?) : OwnI w' B v xs := by
  obtain ⟨h1, h0, h2⟩ := h
  refine ⟨⟨h1.1, ?_⟩, h0, fun g hg => by rw [hb g hg]; exact h2 g hg⟩
  rcases h1.2 with hn | ⟨g, cap, cur, rfl, hB, hgg, rest⟩
  · exact .inl hn
  · exact .inr ⟨g, cap, cur, rfl, hB, by rw [hb g rfl]; exact hgg, rest⟩
theorem OwnI.lt {w : World} {B : Nat} {v : Value} {xs : List Int} (h : OwnI w B v xs) {g : Nat} (hg : v.ownBlock = some g) : B ≤ g ∧ g < w.heap.size := h.1.lt g hg
theorem OwnI.then_ {w w' : World} {B : Nat} {v : Value} {xs : List Int} (h : OwnI w B v xs) (hb : Below w.heap.size w w') : OwnI w' B v xs :=
  h.kept fun g hg => hb.block g (h.lt hg).2
/-- a number beside it -/
theorem Rd.grownI {w w' : World} {B n c : Nat} {A : Option Addr} {v : Value} {xs : List Int} {ys : List Nat} (hx : Rd w w.heap.size A n c ys) (h : OwnI w B v xs) (hg : w.grownBy w' v.ownBlock) : Rd w' w'.heap.size A n c ys := by
  refine ⟨hx.len, hx.limbs, hx.cap, hx.big, hx.cbig, fun h0 => ?_⟩
  obtain ⟨ad, e, hb, hc⟩ := hx.cells h0
  refine ⟨ad, e, Nat.lt_of_lt_of_le hb hg.size, fun j hj => ?_⟩
  have hcj := hc j hj
  refine (World.cell?_of_block (hg.block _ (by rw [block_add]; exact hb) fun e2 => ?_)).trans hcj
  obtain ⟨cur, h3, h4⟩ := h.2.2 _ e2.symm
  simp only [World.cell?, h3] at hcj
  split at hcj
  · cases hcj
  · obtain ⟨z, hz⟩ := h4 _ _ hcj
    simp at hz
theorem Nn.grownI {w w' : World} {B m : Nat} {x : Nc} {v : Value} {xs : List Int} (hx : Nn w w.heap.size x m) (h : OwnI w B v xs) (hg : w.grownBy w' v.ownBlock) : Nn w' w'.heap.size x m := Rd.grownI hx h hg
theorem Nv.grownI {w w' : World} {B m : Nat} {x : Nc} {v : Value} {xs : List Int} (hx : Nv w w.heap.size x m) (h : OwnI w B v xs) (hg : w.grownBy w' v.ownBlock) : Nv w' w'.heap.size x m := by
  obtain ⟨ys, h1, h2⟩ := hx
  exact ⟨ys, h1.grownI h hg, h2⟩
/-- the finished list is read -/
theorem OwnI.rd {w : World} {B : Nat} {v : Value} {xs : List Int} (h : OwnI w B v xs) (hl : xs.length ≤ 70368744177664) : ∃ A n c, v = .slice A n c ∧ RdI w w.heap.size A n c xs := by
  rcases h.1.2 with ⟨rfl, hn⟩ | ⟨g, cap, cur, rfl, hB, hgg, h1, h2, h3, h4⟩
  · obtain rfl : xs = [] := List.eq_nil_of_length_eq_zero hn
    exact ⟨_, _, _, rfl, RdI.empty _ _ _ (by omega)⟩
  · refine ⟨_, _, _, rfl, rfl, h.2.1, h1, hl, by simp only [maxLen] at h2; omega, fun _ => ⟨_, rfl, (Array.getElem?_eq_some_iff.1 hgg).1, fun j hj => ?_⟩⟩
    refine h.1.cells (g := g) rfl j _ ?_
    rw [List.getElem?_map, li_get? hj]
    rfl
/-- so far known: a slice -/
theorem OwnI.form {w : World} {B : Nat} {v : Value} {xs : List Int} (h : OwnI w B v xs) : ∃ A c, v = .slice A xs.length c ∧ xs.length ≤ c ∧ c ≤ 9223372036854775807 := by
  rcases h.1.2 with ⟨rfl, hn⟩ | ⟨g, cap, cur, rfl, hB, hgg, h1, h2, h3, h4⟩
  · exact ⟨none, 0, by rw [hn], by omega, by omega⟩
  · exact ⟨_, _, rfl, h1, by simp only [maxLen] at h2; omega⟩

theorem Try.infoInt : (Try.prog.info? 3).map (fun i => (i.zero, i.size, i.bytes)) = some (some (.int .i64 0), 1, 8) := by kernel_rfl
theorem zeroCells_int {k : Nat} {j : Nat} {u : Value} (h : (zeroCells (Value.int .i64 0).cells k)[j]? = some u) : ∃ z, u = .int .i64 z := by
  simp only [zeroCells, Value.cells, Array.getElem?_map] at h
  cases hq : (Array.range (k * #[Value.int IntKind.i64 0].size))[j]? with
  | none => rw [hq] at h; cases h
  | some i => rw [hq] at h; exact ⟨0, by simpa [Nat.mod_one] using h.symm⟩
theorem ints_cell {xs : List Int} {j : Nat} {u : Value} (h : (xs.map (Value.int .i64))[j]? = some u) : ∃ z, u = .int .i64 z := by
  rw [List.getElem?_map] at h
  cases hq : xs[j]? with
  | none => rw [hq] at h; cases h
  | some z => rw [hq] at h; exact ⟨z, by simpa using h.symm⟩
/-- what a grown row holds -/
theorem grown_cells {xs ys : List Int} {k j : Nat} {u : Value} (h : ((xs.map (Value.int .i64)).toArray ++ (ys.map (Value.int .i64)).toArray ++ zeroCells (Value.int .i64 0).cells k)[j]? = some u) : ∃ z, u = .int .i64 z := by
  rw [Array.getElem?_append] at h
  split at h
  · rw [Array.getElem?_append] at h
    split at h
    · exact ints_cell (by simpa using h)
    · exact ints_cell (by simpa using h)
  · exact zeroCells_int h
/-- 'append(v, ys...)': v a list of the call's own -/
theorem run_append_ints {w : World} {B : Nat} {v : Value} {xs ys : List Int} {ty : TypeId} (hown : OwnI w B v xs) (ad : Addr) (m c : Nat) (hm : ys.length = m) (hcell : ∀ j, j < m → w.cell? (ad.add j) = some (.int .i64 (li ys j))) (hy : ∀ j, I64 (li ys j)) (hl : xs.length + m ≤ 17592186044416) (hB : B ≤ w.heap.size) :
    ∃ v' w', (append_ #[54, 54] ty #[v, .slice (some ad) m c]).run Try.prog w = .ok v' w' ∧ OwnI w' B v' (xs ++ ys) ∧ w.grownBy w' v.ownBlock := by
  obtain ⟨i0, hi, hz0, hz1, hz2⟩ := info_parts Try.infoInt
  have hnews : ∀ j u, (ys.map (Value.int .i64))[j]? = some u → w.cell? (ad.add j) = some u := by
    intro j u hu
    rw [List.getElem?_map] at hu
    cases hq : ys[j]? with
    | none => rw [hq] at hu; cases hu
    | some z =>
      have hj := (List.getElem?_eq_some_iff.1 hq).1
      rw [hq] at hu
      rw [hcell j (by omega)]
      rw [li_get? hj] at hq
      simp only [Option.some.injEq] at hq
      rw [hq]
      exact hu
  have h1c : ∀ u ∈ ys.map (Value.int .i64), u.oneCell' = true := by
    intro u hu
    obtain ⟨z, _, rfl⟩ := List.mem_map.1 hu
    rfl
  obtain ⟨v', w', hr, h1, h2, _⟩ := run_append_own (P := Try.prog) w B 54 ty 3 i0 (.int .i64 0) 1 8 Try.underlying54 hi hz0 hz1 hz2 rfl (by decide) v xs.length (xs.map (Value.int .i64)) hown.1 ad m c (ys.map (Value.int .i64)) (by simp [hm]) hnews h1c (by simp only [maxLen]; omega) (by omega) hB
  refine ⟨v', w', hr, ⟨?_, fun j => ?_, ?_⟩, h2⟩
  · rw [List.map_append, List.length_append, hm]; exact h1
  · by_cases hj : j < xs.length
    · rw [li_append_lt hj]; exact hown.2.1 j
    · have e : li (xs ++ ys) j = li ys (j - xs.length) := by simp [li, List.getD, List.getElem?_append, hj]
      rw [e]; exact hy _
  · rcases hown.1.2 with ⟨rfl, hn⟩ | ⟨g, cap, cur, rfl, hBg, hgg, q1, q2, q3, q4⟩
    · by_cases h0 : m = 0
      · subst h0
        obtain rfl : ys = [] := List.eq_nil_of_length_eq_zero hm
        obtain rfl : xs = [] := List.eq_nil_of_length_eq_zero hn
        have hr2 : (append_ #[54, 54] ty #[.slice none 0 0, .slice (some ad) 0 c]).run Try.prog w = .ok (.slice none 0 0) w := by
          simp [Builtin.append_, run_underlying Try.underlying54, sizeOf, typeInfo, hi, Builtin.lenOf, Builtin.firstCells, loadCells, loadCellsFrom]
        rw [hr2] at hr
        injection hr with e1 e2
        subst e1 e2
        intro g hg
        simp [Value.ownBlock] at hg
      · have hr2 := run_append_nil (P := Try.prog) w 54 ty 3 i0 (.int .i64 0) Try.underlying54 hi hz0 ad m c (ys.map (Value.int .i64)) (by simp [hm, hz1]) hnews (by omega) (by omega) (by rw [hz2]; omega)
        rw [hr2] at hr
        injection hr with e1 e2
        subst e1 e2
        intro g hg
        simp only [Value.ownBlock, Option.some.injEq] at hg
        subst hg
        refine ⟨_, heap_alloc_new w.drew _, fun j u hu => grown_cells (xs := []) (ys := ys) (j := j) (k := grownCap w m 0 3 - m) ?_⟩
        simpa using hu
    · by_cases hroom : xs.length + m ≤ cap
      · have hr2 := run_append_room (P := Try.prog) w 54 ty 3 i0 Try.underlying54 hi g xs.length cap cur hgg ad m c (ys.map (Value.int .i64)) (by simp [hm, hz1]) hnews h1c hroom (by rw [hz1]; simp [hm]; omega)
        rw [hr2] at hr
        injection hr with e1 e2
        subst e1 e2
        obtain ⟨cur', k1, k2⟩ := hown.2.2 g rfl
        rw [hgg] at k1
        simp only [Option.some.injEq, Obj.cells.injEq, and_true] at k1
        subst k1
        intro g' hg'
        simp only [Value.ownBlock, Option.some.injEq] at hg'
        subst hg'
        refine ⟨_, setRow_heap w g cur _ 3 _ hgg, fun j u hu => ?_⟩
        simp only [List.getElem?_toArray, List.getElem?_append] at hu
        split at hu
        · split at hu
          · rw [List.getElem?_take] at hu
            split at hu
            · exact k2 _ _ (by simpa using hu)
            · cases hu
          · exact ints_cell hu
        · rw [List.getElem?_drop] at hu
          exact k2 _ _ (by simpa using hu)
      · have holds : ∀ j u, (xs.map (Value.int .i64))[j]? = some u → w.cell? ((⟨g, 0, none⟩ : Addr).add j) = some u := hown.1.cells (g := g) rfl
        have hr2 := run_append_grow (P := Try.prog) w 54 ty 3 i0 (.int .i64 0) Try.underlying54 hi hz0 ⟨g, 0, none⟩ xs.length cap (xs.map (Value.int .i64)) (by simp [hz1]) holds ad m c (ys.map (Value.int .i64)) (by simp [hm, hz1]) hnews (by omega) (by omega) (growslice_fits (by omega) (by rw [hz2]; omega))
        rw [hr2] at hr
        injection hr with e1 e2
        subst e1 e2
        intro g' hg'
        simp only [Value.ownBlock, Option.some.injEq] at hg'
        subst hg'
        exact ⟨_, heap_alloc_new w.drew _, fun j u hu => grown_cells hu⟩
theorem wpList_append_ints {ops : Array Oper} {rest : List Oper} {o : Oper} {a : Act} {Q : Exit → Act → World → Prop} {w : World} (hgd : o.guard = none) (s x : Operand)
    (ho : o.op = .call { callee := .builtin .append, args := #[s, x], argTypes := #[54, 54] })
    (B : Nat) (v : Value) (xs ys : List Int) (hs : a.eval s = v) (hown : OwnI w B v xs) (ad : Addr) (m c : Nat) (hx : a.eval x = .slice (some ad) m c) (hm : ys.length = m) (hcell : ∀ j, j < m → w.cell? (ad.add j) = some (.int .i64 (li ys j))) (hy : ∀ j, I64 (li ys j))
    (hl : xs.length + m ≤ 17592186044416) (hB : B ≤ w.heap.size)
    (h : ∀ v' w', OwnI w' B v' (xs ++ ys) → w.grownBy w' v.ownBlock → wpList Try.prog ops Q rest (a.put o.dst v') w') : wpList Try.prog ops Q (o :: rest) a w := by
  refine wpList_plain hgd fun K hK => ?_
  obtain ⟨v', w', hr, h2, h3⟩ := run_append_ints (ty := o.type) hown ad m c hm hcell hy hl hB
  unfold Oper.wp execOp
  simp only [ho, resolve, invoke, builtin, Sem.run_bind, Sem.run_pure, Result.andThen_ok, List.map_toArray, List.map_cons, List.map_nil, hs, hx, hr]
  exact hK _ _ (h v' w' h2 h3)
/-- 'append(v, z)' -/
theorem wpList_append_int {ops : Array Oper} {rest : List Oper} {o : Oper} {a : Act} {Q : Exit → Act → World → Prop} {w : World} (hgd : o.guard = none) (s x : Operand)
    (ho : o.op = .call { callee := .builtin .append, args := #[s, x], argTypes := #[54, 54] })
    (B : Nat) (v : Value) (xs : List Int) (hs : a.eval s = v) (hown : OwnI w B v xs) (ad : Addr) (c : Nat) (z : Int) (hx : a.eval x = .slice (some ad) 1 c) (hz : w.cell? ad = some (.int .i64 z)) (hw : I64 z)
    (hl : xs.length + 1 ≤ 17592186044416) (hB : B ≤ w.heap.size)
    (h : ∀ v' w', OwnI w' B v' (xs ++ [z]) → w.grownBy w' v.ownBlock → wpList Try.prog ops Q rest (a.put o.dst v') w') : wpList Try.prog ops Q (o :: rest) a w :=
  wpList_append_ints hgd s x ho B v xs [z] hs hown ad 1 c hx rfl (fun j hj => by obtain rfl : j = 0 := by omega
                                                                                 rw [add_zero_]; exact hz)
    (fun j => by match j with
      | 0 => exact hw
      | j + 1 => simp [li, I64]) hl hB h
theorem OwnI.alloc {w : World} {B : Nat} {v : Value} {xs : List Int} (h : OwnI w B v xs) (o : Obj) : OwnI (w.alloc o) B v xs := h.kept fun g hg => Below.heap_alloc w o g (h.lt hg).2
theorem madeCells_int {n j : Nat} {u : Value} (h : (madeCells (Value.int .i64 0).cells n)[j]? = some u) : ∃ z, u = .int .i64 z := by
  simp only [madeCells, Value.cells, Array.getElem?_map] at h
  cases hq : (Array.range n)[j]? with
  | none => rw [hq] at h; cases h
  | some i => rw [hq] at h; exact ⟨0, by simpa [Nat.mod_one] using h.symm⟩
/-- 'make([]int, 0, n)' -/
theorem wpList_make_ints {ops : Array Oper} {rest : List Oper} {o : Oper} {a : Act} {Q : Exit → Act → World → Prop} {w : World} (hg : o.guard = none) (l c : Operand) (hop : o.op = Op.makeSlice 54 l c)
    (kl kc : IntKind) (C : Int) (n : Nat) (hl : a.eval l = .int kl 0) (hc : a.eval c = .int kc C) (hC : C = (n : Int)) (hn : n ≤ 17592186044416) (B : Nat) (hB : B ≤ w.heap.size)
    (hK : ∀ w1, OwnI w1 B (.slice (some ⟨w.heap.size, 0, none⟩) 0 n) [] → Below w.heap.size w w1 → wpList Try.prog ops Q rest (a.put o.dst (.slice (some ⟨w.heap.size, 0, none⟩) 0 n)) w1) : wpList Try.prog ops Q (o :: rest) a w := by
  obtain ⟨i0, hi, hz0, hz1, hz2⟩ := info_parts Try.infoInt
  subst hC
  refine wpList_plain hg fun K hK' => ?_
  have hr := run_make (P := Try.prog) w 54 3 i0 (.int .i64 0) Try.underlying54 hi hz0 kl kc 0 n (Int.le_refl _) (by omega) (by rw [hz2]; omega) (by omega)
  simp only [Int.toNat_zero, Int.toNat_natCast] at hr
  unfold Oper.wp
  simp [execOp, hop, hl, hc, hr, Result.andThen]
  refine hK' _ _ (hK _ ⟨World.ownsRow_made w _ n hB (by simp only [maxLen]; omega) (by rw [size_madeCells, hz1]), fun j => (by simp [li, I64]), fun g hg => ?_⟩ ((Below.refl _ _).alloc (Nat.le_refl _) _))
  simp only [Value.ownBlock, Option.some.injEq] at hg
  subst hg
  exact ⟨_, heap_alloc_new w _, fun j u hu => madeCells_int hu⟩
/-- beside an append: numbers, old memory -/
theorem OwnI.below {w w' w0 : World} {B : Nat} {v : Value} {xs : List Int} (h : OwnI w B v xs) (hg : w.grownBy w' v.ownBlock) (hb : Below B w0 w) (hB : B ≤ w.heap.size) : Below B w0 w' :=
  hb.grown hg hB fun _k hk => (h.lt hk).1
theorem Nn.push {w w' : World} {B m : Nat} {x : Nc} {v : Value} {xs : List Int} {o : Obj} (hx : Nn w w.heap.size x m) (h : OwnI w B v xs) (hg : (w.alloc o).grownBy w' v.ownBlock) : Nn w' w'.heap.size x m :=
  Nn.grownI (hx.then_ ((Below.refl _ _).alloc (Nat.le_refl _) o)) (h.alloc o) hg
theorem Nv.push {w w' : World} {B m : Nat} {x : Nc} {v : Value} {xs : List Int} {o : Obj} (hx : Nv w w.heap.size x m) (h : OwnI w B v xs) (hg : (w.alloc o).grownBy w' v.ownBlock) : Nv w' w'.heap.size x m :=
  Nv.grownI (hx.then_ ((Below.refl _ _).alloc (Nat.le_refl _) o)) (h.alloc o) hg
theorem OwnI.pushed {w w' w0 : World} {B : Nat} {v : Value} {xs : List Int} {o : Obj} (h : OwnI w B v xs) (hg : (w.alloc o).grownBy w' v.ownBlock) (hb : Below B w0 w) (hB : B ≤ w.heap.size) : Below B w0 w' :=
  (h.alloc o).below hg (hb.alloc hB o) (by simp; omega)
end

section
open Go.RowKit

noncomputable def okI (n : Int) : Bool := decide (0 ≤ n ∧ n ≤ 200)
theorem okI_true {n : Int} (h0 : 0 ≤ n) (h1 : n ≤ 200) : okI n = true := by simp [okI, h0, h1]
theorem okI_false {n : Int} (h : ¬ (0 ≤ n ∧ n ≤ 200)) : okI n = false := by simp only [okI, decide_eq_false_iff_not]; exact h
noncomputable def facI (n : Int) : Nat := if 0 ≤ n ∧ n ≤ 200 then fac n.toNat else 0
noncomputable def chI (n k : Int) : Nat := if (0 ≤ n ∧ n ≤ 200) ∧ 0 ≤ k ∧ k ≤ n then ch n.toNat k.toNat else 0
theorem chI_nat {n k : Nat} (hn : n ≤ 200) (hk : k ≤ n) : chI n k = ch n k := by
  unfold chI
  rw [if_pos ⟨⟨by omega, by omega⟩, by omega, by omega⟩, Int.toNat_natCast, Int.toNat_natCast]
set_option maxHeartbeats 1000000 in
theorem countable_any {w : World} {n : Int} : Calls Try.prog 81 #[.int .i64 n] w (fun e w' => e = .returned (.bool (okI n)) ∧ Below w.heap.size w w') := by
  have B := hide (Below.refl w.heap.size w)
  by_cases h0 : 0 ≤ n
  · by_cases h1 : n ≤ 200
    · rw [okI_true h0 h1]
      have d0 : decide ((0 : Int) ≤ n) = true := by simpa using h0
      have d1 : decide (n ≤ (200 : Int)) = true := by simpa using h1
      clear h0 h1
      go_enter Try.func81, Try.ntmps81
      go_wp2
      go_ret
      exact ⟨rfl, B.out⟩
    · rw [okI_false (fun h => h1 h.2)]
      have d0 : decide ((0 : Int) ≤ n) = true := by simpa using h0
      have d1 : decide (n ≤ (200 : Int)) = false := by simpa using h1
      clear h0 h1
      go_enter Try.func81, Try.ntmps81
      go_wp2
      go_ret
      exact ⟨rfl, B.out⟩
  · rw [okI_false (fun h => h0 h.1)]
    have d0 : decide ((0 : Int) ≤ n) = false := by simpa using h0
    clear h0
    go_enter Try.func81, Try.ntmps81
    go_wp2
    go_ret
    exact ⟨rfl, B.out⟩
theorem wrap_u64_nat {z : Int} {m : Nat} (hz : z = (m : Int)) (hm : m < 9223372036854775808) : IntKind.u64.wrap z = (m : Int) := by
  subst hz
  simp only [IntKind.wrap, IntKind.bits, IntKind.signed]
  simp
  omega
set_option maxHeartbeats 1000000 in
theorem number_any {w : World} {z : Int} {m : Nat} (hz : z = (m : Int)) (hm : m < 9223372036854775808) : Calls Try.prog 82 #[.int .i64 z] w (RetC w m) := by
  have hwr := wrap_u64_nat hz hm
  clear hz
  go_enter Try.func82, Try.ntmps82
  go_wp2_with fail
  refine (of_c (m := m) (by omega)).mono ?_
  rintro e w1 ⟨x, rfl, R, hb⟩
  replace R := hide R
  replace hb := hide hb
  go_wp2
  go_ret
  exact ⟨x, rfl, R.out, hb.out⟩
set_option maxHeartbeats 1000000 in
theorem share_any {w : World} {Bd : Nat} {x : Nc} {m : Nat} (h_x : Nn w Bd x m) (hB : Bd ≤ w.heap.size) {p q : Int} {a b r : Nat} (ha : p = (a : Int)) (hb' : q = (b : Int)) (ba : a < 9223372036854775808) (bb : b < 9223372036854775808) (b0 : b ≠ 0) (sx : Sm m) (sp : Sm (m * a)) (hr : m * a / b = r) :
    Calls Try.prog 83 #[.slice x.A x.n x.c, .int .i64 p, .int .i64 q] w (RetC w r) := by
  have sa := hide (nat_sm (m := a) (by omega))
  have sb := hide (nat_sm (m := b) (by omega))
  replace ha := hide ha
  replace hb' := hide hb'
  replace ba := hide ba
  replace bb := hide bb
  replace b0 := hide b0
  replace sx := hide sx
  replace sp := hide sp
  replace hr := hide hr
  have R_x := hide (h_x.upto (Below.refl _ _) hB)
  clear h_x
  have B := hide (Below.refl w.heap.size w)
  go_enter Try.func83, Try.ntmps83
  go_wp2_with fail
  refine (number_any ha.out ba.out).mono ?_
  rintro e w1 ⟨x_a, rfl, R_a, hb⟩
  replace R_x := hide (R_x.out.then_ hb)
  replace B := hide (Below.then_ B.out hb)
  clear hb
  replace R_a := hide R_a
  go_wp2_with fail
  refine (mul_c (R_x.out.nv sx.out) (R_a.out.nv sa.out) (Nat.le_refl _) rfl).mono ?_
  rintro e w2 ⟨x_p, rfl, R_p, hb⟩
  replace R_x := hide (R_x.out.then_ hb)
  replace R_a := hide (R_a.out.then_ hb)
  replace B := hide (Below.then_ B.out hb)
  clear hb
  replace R_p := hide R_p
  go_wp2_with fail
  refine (number_any hb'.out bb.out).mono ?_
  rintro e w3 ⟨x_b, rfl, R_b, hb⟩
  replace R_x := hide (R_x.out.then_ hb)
  replace R_a := hide (R_a.out.then_ hb)
  replace R_p := hide (R_p.out.then_ hb)
  replace B := hide (Below.then_ B.out hb)
  clear hb
  replace R_b := hide R_b
  go_wp2_with fail
  refine (divmod_c (R_p.out.nv sp.out) (R_b.out.nv sb.out) (Nat.le_refl _) b0.out rfl rfl).mono ?_
  rintro e w4 ⟨x_q, x_r, rfl, R_q, R_r, hb⟩
  replace R_x := hide (R_x.out.then_ hb)
  replace R_a := hide (R_a.out.then_ hb)
  replace R_p := hide (R_p.out.then_ hb)
  replace R_b := hide (R_b.out.then_ hb)
  replace B := hide (Below.then_ B.out hb)
  clear hb
  replace R_q := hide R_q
  replace R_r := hide R_r
  rw [hr.out] at R_q
  go_wp2
  go_ret
  exact ⟨x_q, rfl, R_q.out, B.out⟩
theorem facI_nat {n : Nat} (hn : n ≤ 200) : facI n = fac n := by
  unfold facI
  rw [if_pos ⟨by omega, by omega⟩, Int.toNat_natCast]
theorem cb_nil {w w' : World} {b : Bool} {m : Nat} (hm : m = 0) (B : Below w.heap.size w w') : RetCB w m b (.returned (.tuple #[.slice none 0 0, .bool b])) w' := by
  subst hm
  exact ⟨⟨none, 0, 0⟩, rfl, Nn.zero _ _ (by omega) _, B⟩
set_option maxHeartbeats 4000000 in
theorem choose_any {w : World} {n k : Int} (hn : I64 n) (hk : I64 k) : Calls Try.prog 50 #[.int .i64 n, .int .i64 k] w (RetCB w (chI n k) (okI n)) := by
  have B := hide (Below.refl w.heap.size w)
  by_cases h : 0 ≤ n ∧ n ≤ 200
  · obtain ⟨N, rfl⟩ : ∃ N : Nat, n = (N : Int) := ⟨n.toNat, by omega⟩
    have hok := okI_true h.1 h.2
    have hN : N ≤ 200 := by omega
    by_cases h2 : 0 ≤ k ∧ k ≤ N
    · obtain ⟨K, rfl⟩ : ∃ K : Nat, k = (K : Int) := ⟨k.toNat, by omega⟩
      have hK : K ≤ N := by omega
      rw [chI_nat hN hK]
      obtain ⟨M, hM, hMN, hMc⟩ : ∃ M : Nat, min (K : Int) ((N : Int) - (K : Int)) = (M : Int) ∧ M ≤ N ∧ ch N M = ch N K := by
        by_cases hmin : K ≤ N - K
        · exact ⟨K, by omega, hK, rfl⟩
        · exact ⟨N - K, by omega, by omega, ch_symm hK⟩
      have d0 : decide ((K : Int) < 0) = false := by simp
      have d1 : decide ((N : Int) < (K : Int)) = false := by simp; omega
      have hMc' := hide hMc
      have hKh := hide hK
      clear h h2 hMc hn hk
      go_enter Try.func50, Try.ntmps50
      go_wp2_with fail
      refine countable_any.mono ?_
      rw [hok]
      rintro e w1 ⟨rfl, hb⟩
      replace B := hide (Below.then_ B.out hb)
      clear hb
      go_wp2_with fail
      refine (number_any (m := 1) rfl (by omega)).mono ?_
      rintro e w2 ⟨x1, rfl, R1, hb⟩
      replace B := hide (Below.then_ B.out hb)
      replace R1 := hide (show Nn w2 w2.heap.size x1 (ch (N - M + 0) 0) by rw [ch_zero]; exact R1)
      clear hb
      go_wp2
      go_loopw [6, 25] (fun p i wr => ∃ (k : Nat) (x : Nc), k ≤ M ∧ p = .slice x.A x.n x.c ∧ i = .int .i64 k ∧ Hid (Nn wr wr.heap.size x (ch (N - M + k) k)) ∧ Hid (Below w.heap.size w wr)) (fun _ i _ => M - (intOf i).toNat)
      case atStart => exact ⟨0, x1, Nat.zero_le _, rfl, rfl, R1, B⟩
      case round =>
        obtain ⟨k, x, hk, rfl, rfl, R, B2⟩ := hrel
        clear R1 B
        by_cases hkl : k < M
        · go_wp2_with fail
          refine (share_any (a := N - M + k + 1) (b := k + 1) (r := ch (N - M + k + 1) (k + 1)) R.out (Nat.le_refl _) (by omega) (by omega) (by omega) (by omega) (by omega) (ch_sm (by omega)) (step_sm (by omega) (by omega)) ch_absorb_quo).mono ?_
          rintro e w3 ⟨x3, rfl, R3, hb⟩
          replace B2 := hide (Below.then_ B2.out hb)
          replace R3 := hide (show Nn w3 w3.heap.size x3 (ch (N - M + (k + 1)) (k + 1)) from R3)
          clear hb R
          go_wp2
          go_roundw
          case rel => exact ⟨k + 1, x3, by omega, rfl, by go_num, R3, B2⟩
          case measure => simp [intOf]; omega
        · obtain rfl : k = M := by omega
          replace R := hide (show Nn wr wr.heap.size x (ch N K) by rw [← hMc'.out]; have h3 := R.out; rw [show N - k + k = N by omega] at h3; exact h3)
          go_wp2
          go_ret2
          exact ⟨x, by rw [hok]; rfl, R.out, B2.out⟩
    · rw [show chI (N : Int) k = 0 from if_neg fun h3 => h2 h3.2]
      have d0 : decide (k < 0) = true ∨ (decide (k < 0) = false ∧ decide ((N : Int) < k) = true) := by simp; omega
      clear h h2 hn hk
      rcases d0 with d0 | ⟨d0, d1⟩
      all_goals
        go_enter Try.func50, Try.ntmps50
        go_wp2_with fail
        refine countable_any.mono ?_
        rw [hok]
        rintro e w1 ⟨rfl, hb⟩
        replace B := hide (Below.then_ B.out hb)
        clear hb
        go_wp2
        go_ret2
        rw [hok]; exact cb_nil rfl B.out
  · rw [okI_false h, show chI n k = 0 from if_neg fun h2 => h h2.1]
    have hok := okI_false h
    clear h
    go_enter Try.func50, Try.ntmps50
    go_wp2_with fail
    refine countable_any.mono ?_
    rw [hok]
    rintro e w1 ⟨rfl, hb⟩
    replace B := hide (Below.then_ B.out hb)
    clear hb
    go_wp2
    go_ret2
    exact cb_nil rfl B.out
end

section
open Go.RowKit

/-- at arguments in range -/
theorem choose_nat {w : World} {n k : Int} {N K r : Nat} (hn : n = (N : Int)) (hk : k = (K : Int)) (hN : N ≤ 200) (hK : K ≤ N) (hr : ch N K = r) : Calls Try.prog 50 #[.int .i64 n, .int .i64 k] w (RetCB w r true) := by
  subst hn hk
  rw [← hr, ← chI_nat hN hK, ← okI_true (n := (N : Int)) (by omega) (by omega)]
  exact choose_any ⟨by omega, by omega⟩ ⟨by omega, by omega⟩
end

section
open Go.RowKit

theorem chI_any {n k : Nat} (hn : n ≤ 200) : chI (n : Int) (k : Int) = ch n k := by
  by_cases h : k ≤ n
  · exact chI_nat hn h
  · rw [ch_lt (by omega)]
    exact if_neg (by omega)
theorem OwnQ.empty (nf : Nat → Bool) (w : World) {B L : Nat} (hB : B ≤ w.heap.size) (X : Nat → Rc) (q : Nat → Rat) : OwnQ nf (w.alloc (.cells #[] 27)) B L (.slice (some ⟨w.heap.size, 0, none⟩) 0 0) 0 X q :=
  ⟨World.ownsRow_made w _ 0 hB (by simp [maxLen]) (by simp), fun g hg => by
    simp only [Value.ownBlock, Option.some.injEq] at hg
    subst hg
    exact ⟨_, heap_alloc_new w _, fun j u hu => by simp at hu⟩, fun i hi => by omega⟩
theorem Nn.grownQ {w w' : World} {x : Nc} {m : Nat} {row : Option Nat} (hx : Nn w w.heap.size x m) (h : ∀ g, row = some g → ∃ cur t z, w.heap[g]? = some (.cells cur t z) ∧ ∀ (j : Nat) u, cur[j]? = some u → NoU u) (hg : w.grownBy w' row) : Nn w' w'.heap.size x m := Rd.grownQ hx h hg
theorem atq_one {w : World} {x : Rc} : ∀ i, i < 1 → AtQ (w.alloc (.cells #[.bool x.s, .slice x.A x.n x.c, .slice x.B x.m x.d] 27)) ⟨w.heap.size, 0, none⟩ i x := fun i hi => by
  have hc : ∀ j, (w.alloc (.cells #[.bool x.s, .slice x.A x.n x.c, .slice x.B x.m x.d] 27)).cell? ⟨w.heap.size, j, none⟩ = #[Value.bool x.s, .slice x.A x.n x.c, .slice x.B x.m x.d][j]? := fun j => cell_of_row _ _ j _ _ (0, 0) (heap_alloc_new w _)
  obtain rfl : i = 0 := by omega
  exact ⟨by rw [Addr.add_lit, hc]; rfl, by rw [Addr.add_lit, hc]; rfl, by rw [Addr.add_lit, hc]; rfl⟩
/-- Hyper's arguments in range -/
def HyOk (t m d : Int) : Prop := (0 ≤ t ∧ t < 121) ∧ (0 ≤ m ∧ m ≤ t) ∧ 0 ≤ d ∧ d ≤ t
noncomputable def hyN (t m d : Int) : Int × Nat := if @decide (HyOk t m d) (Classical.propDecidable _) = true then (0, min m.toNat d.toNat + 1) else (3, 0)
theorem hyp_divInt {t m d k : Nat} : Rat.divInt ((ch m k * ch (t - m) (d - k) : Nat) : Int) ((ch t d : Nat) : Int) = hyp t m d k := by
  rw [Rat.divInt_eq_div, Rat.intCast_natCast, Rat.intCast_natCast, Rat.natCast_mul]
  rfl
end
end Go.Proofs.Ytdihgmbldnekhaa
