/-
  Draws: Shuffle of the program and of the reference.
-/
import Derived.Test.YtdihgmbldnekhaaDrw2
import Derived.Deep.RegionWith
import Derived.BigRegion
namespace Go.Proofs.Ytdihgmbldnekhaa
open Go.RowKit Go.Builtin

theorem OwnI.cell {w : World} {B g c : Nat} {xs : List Int} {n : Nat} (h : OwnI w B (.slice (some ⟨g, 0, none⟩) n c) xs) {j : Nat} (hj : j < xs.length) : w.cell? ⟨g, j, none⟩ = some (.int .i64 (li xs j)) := by
  have := h.1.cells (g := g) rfl j (.int .i64 (li xs j)) (by rw [List.getElem?_map, li_get? hj]; rfl)
  rwa [Addr.add_lit, Nat.zero_add] at this
theorem OwnI.frozen {w : World} {B g c : Nat} {xs : List Int} {n : Nat} (h : OwnI w B (.slice (some ⟨g, 0, none⟩) n c) xs) (j : Nat) : w.frozen? ⟨g, j, none⟩ = false := by
  obtain ⟨cur, hg, _⟩ := h.2.2 g rfl
  exact frozen_of_row w g j cur _ hg
theorem OwnI.set {w : World} {B g c : Nat} {xs : List Int} {n : Nat} (h : OwnI w B (.slice (some ⟨g, 0, none⟩) n c) xs) {j : Nat} {z : Int} (hz : I64 z) : OwnI (w.setCell ⟨g, j, none⟩ (.int .i64 z)) B (.slice (some ⟨g, 0, none⟩) n c) (xs.set j z) := by
  obtain ⟨h1, h2, h3⟩ := h
  obtain ⟨cur, hg, hc⟩ := h3 g rfl
  refine ⟨⟨by simp, ?_⟩, fun i => ?_, fun g' hg' => ?_⟩
  · rcases h1.2 with ⟨h, _⟩ | ⟨g', cap, cur', hv, hB, hgg, q1, q2, q3, q4⟩
    · simp at h
    · simp only [Value.slice.injEq, Option.some.injEq, Addr.mk.injEq, and_true] at hv
      obtain ⟨rfl, rfl, rfl⟩ := hv
      rw [hg] at hgg
      simp only [Option.some.injEq, Obj.cells.injEq, and_true] at hgg
      subst hgg
      refine .inr ⟨g, c, cur.setIfInBounds j (.int .i64 z), by simp, hB, heap_setCell_same w g j cur _ _ hg, by simpa using q1, q2, by simpa using q3, ?_⟩
      rw [Array.toList_setIfInBounds, List.length_set, List.take_set, q4, List.map_set]
  · by_cases e : i = j
    · subst e
      by_cases hl : i < xs.length
      · rw [show li (xs.set i z) i = z by simp [li, List.getD, hl]]; exact hz
      · rw [List.set_eq_of_length_le (by omega)]; exact h2 i
    · rw [show li (xs.set j z) i = li xs i by simp [li, List.getD, show ¬ j = i by omega]]; exact h2 i
  · simp only [Value.ownBlock, Option.some.injEq] at hg'
    subst hg'
    refine ⟨_, heap_setCell_same w g j cur _ _ hg, fun i u hu => ?_⟩
    rw [Array.getElem?_setIfInBounds] at hu
    split at hu
    · split at hu
      · exact ⟨z, by simpa using hu.symm⟩
      · cases hu
    · exact hc i u hu
theorem OwnI.drew {w : World} {B : Nat} {v : Value} {xs : List Int} (h : OwnI w B v xs) : OwnI w.drew B v xs := h.kept fun _ _ => rfl
theorem I64.of {n : Nat} (h : n < 9223372036854775808) : I64 (n : Int) := ⟨by omega, by omega⟩
theorem zeros_cell {n : Nat} : (madeCells (Value.int .i64 0).cells n).toList = (List.replicate n (0 : Int)).map (Value.int .i64) := by
  refine List.ext_getElem? fun j => ?_
  by_cases hj : j < n
  · simp [madeCells, Value.cells, hj, Nat.mod_one]
  · rw [List.getElem?_eq_none (by simp [madeCells]; omega), List.getElem?_eq_none (by simp; omega)]
/-- 'make([]int, n)' -/
theorem wpList_make_zeros {ops : Array Oper} {rest : List Oper} {o : Oper} {a : Act} {Q : Exit → Act → World → Prop} {w : World} (hg : o.guard = none) (l c : Operand) (hop : o.op = Op.makeSlice 54 l c)
    (kl kc : IntKind) (M C : Int) (n : Nat) (hl : a.eval l = .int kl M) (hc : a.eval c = .int kc C) (hM : M = (n : Int)) (hC : C = (n : Int)) (hn : n ≤ 17592186044416) (B : Nat) (hB : B ≤ w.heap.size)
    (hK : ∀ w1, OwnI w1 B (.slice (some ⟨w.heap.size, 0, none⟩) n n) (List.replicate n 0) → Below w.heap.size w w1 → wpList Try.prog ops Q rest (a.put o.dst (.slice (some ⟨w.heap.size, 0, none⟩) n n)) w1) : wpList Try.prog ops Q (o :: rest) a w := by
  obtain ⟨i0, hi, hz0, hz1, hz2⟩ := info_parts Try.infoInt
  subst hM hC
  refine wpList_plain hg fun K hK' => ?_
  have hr := run_make (P := Try.prog) w 54 3 i0 (.int .i64 0) Try.underlying54 hi hz0 kl kc n n (by omega) (Int.le_refl _) (by rw [hz2]; omega) (by omega)
  simp only [Int.toNat_natCast, hz1, Nat.mul_one] at hr
  unfold Oper.wp
  simp [execOp, hop, hl, hc, hr, Result.andThen]
  refine hK' _ _ (hK _ ⟨⟨by simp, .inr ⟨w.heap.size, n, _, by rw [List.length_replicate], hB, heap_alloc_new w _, by rw [List.length_replicate]; exact Nat.le_refl _, by simp only [maxLen]; omega, by rw [size_madeCells]; omega, ?_⟩⟩, fun j => ?_, fun g hg => ?_⟩ ((Below.refl _ _).alloc (Nat.le_refl _) _))
  · rw [List.length_replicate, Nat.mul_one, ← zeros_cell, List.take_of_length_le (by simp [madeCells])]
  · have e : li (List.replicate n 0) j = 0 := by
      unfold li List.getD
      by_cases hj : j < n
      · simp [hj]
      · rw [List.getElem?_eq_none (by simp; omega)]; rfl
    rw [e]
    exact ⟨by omega, by omega⟩
  · simp only [Value.ownBlock, Option.some.injEq] at hg
    subst hg
    exact ⟨_, heap_alloc_new w _, fun j u hu => madeCells_int hu⟩
/-- a list and a state -/
def RetLS (w : World) (xs : List Int) (s : Nat) (e : Ending) (w' : World) : Prop :=
  ∃ A n c, e = .returned (.tuple #[.slice A n c, .int .u64 (s : Int)]) ∧ RdI w' w'.heap.size A n c xs ∧ Below w.heap.size w w'
theorem su_no {s : Nat} {n : Int} (h : shfB n = false) : suL s n = [] ∧ suS s n = s := by
  constructor
  · rw [suL, if_neg (by rw [h]; decide)]
  · rw [suS, if_neg (by rw [h]; decide)]
theorem su_yes {s m : Nat} (h : m ≤ 1024) : suL s (m : Int) = shL (m - 1) s (idI m) ∧ suS s (m : Int) = dit (m - 1) s := by
  have e : shfB (m : Int) = true := by simp only [shfB, decide_eq_true_eq]; omega
  constructor
  · rw [suL, if_pos e, Int.toNat_natCast]
  · rw [suS, if_pos e, Int.toNat_natCast]
theorem ids_eq {n : Nat} {xs : List Int} (hl : xs.length = n) (h : ∀ k, k < n → li xs k = (k : Int)) : xs = idI n :=
  li_ext (by rw [hl, id_length]) fun j hj => by rw [h j (by omega), li_id (by omega)]
theorem li_i64 {xs : List Int} {w : World} {B : Nat} {v : Value} (h : OwnI w B v xs) (j : Nat) : I64 (li xs j) := h.2.1 j
theorem wrap_i {n : Nat} (h : n < 9223372036854775808) : IntKind.i64.wrap (n : Int) = (n : Int) := by rw [IntKind.wrap_i64]; omega
set_option maxHeartbeats 16000000 in
set_option maxRecDepth 100000 in
theorem shuffle_p {w : World} {d : Nat} {n : Int} (hd : d < 18446744073709551616) (hn : I64 n) : Calls Try.prog 32 #[.int .u64 (d : Int), .int .i64 n] w (RetLS w (suL d n) (suS d n)) := by
  obtain ⟨hn0, hn1⟩ := hn
  by_cases h1 : n < 0
  · have d1 : decide (n < 0) = true := decide_eq_true h1
    have h0 : shfB n = false := by simp only [shfB, decide_eq_false_iff_not]; omega
    clear h1
    have B := hide (Below.refl w.heap.size w)
    rw [(su_no h0).1, (su_no h0).2]
    clear h0
    go_enter Try.func32, Try.ntmps32
    go_wp2
    go_ret2
    exact ⟨_, _, _, rfl, RdI.empty _ _ _ (by omega), B.out⟩
  by_cases h2 : 1024 < n
  · have d1 : decide (n < 0) = false := decide_eq_false h1
    have d2 : decide ((1024 : Int) < n) = true := decide_eq_true h2
    have h0 : shfB n = false := by simp only [shfB, decide_eq_false_iff_not]; omega
    clear h1 h2
    have B := hide (Below.refl w.heap.size w)
    rw [(su_no h0).1, (su_no h0).2]
    clear h0
    go_enter Try.func32, Try.ntmps32
    go_wp2
    go_ret2
    exact ⟨_, _, _, rfl, RdI.empty _ _ _ (by omega), B.out⟩
  obtain ⟨m, rfl⟩ : ∃ m : Nat, n = (m : Int) := ⟨n.toNat, by omega⟩
  have d1 : decide ((m : Int) < 0) = false := decide_eq_false h1
  have d2 : decide ((1024 : Int) < (m : Int)) = false := decide_eq_false h2
  have hm : m ≤ 1024 := by omega
  have hsu := su_yes (s := d) hm
  obtain ⟨T, hT⟩ : ∃ T, T = suL d (m : Int) := ⟨_, rfl⟩
  obtain ⟨S, hS⟩ : ∃ S, S = suS d (m : Int) := ⟨_, rfl⟩
  rw [← hT, ← hS] at hsu
  rw [← hT, ← hS]
  have hTe := hide hsu.1.symm
  have hSe := hide hsu.2.symm
  clear hT hS hsu h1 h2
  have B := hide (Below.refl w.heap.size w)
  go_enter Try.func32, Try.ntmps32
  go_wp2_with (at_make; refine wpList_make_zeros rfl _ _ rfl _ _ _ _ m rfl rfl rfl rfl (by omega) w.heap.size (Nat.le_refl _) ?_; intro w1 hO hb)
  replace B := hide (Below.then_ B.out hb)
  replace hO := hide hO
  clear hb
  obtain ⟨g, hg⟩ : ∃ g, g = w.heap.size := ⟨_, rfl⟩
  have hgw := hide (Nat.le_of_eq hg.symm)
  obtain ⟨wo, hwo⟩ : ∃ wo, wo = w.heap.size := ⟨_, rfl⟩
  have hO2 := hO.out
  rw [← hwo, hwo, ← hg] at hO2
  have hgo := hide (show w.heap.size ≤ g by omega)
  simp only [← hg]
  rw [hg] at hO2
  rw [← hg] at hO2
  replace hO := hide hO2
  clear hO2 hwo hg wo
  go_wp2
  go_loopw [21] (fun iv wr => ∃ (i : Nat) (xs : List Int), i ≤ m ∧ iv = .int .i64 i ∧ Hid (OwnI wr g (.slice (some ⟨g, 0, none⟩) m m) xs) ∧ Hid (xs.length = m) ∧ Hid (∀ k, k < i → li xs k = (k : Int)) ∧ Hid (Below w.heap.size w wr)) (fun iv _ => m - (intOf iv).toNat)
  case atStart => exact ⟨0, _, Nat.zero_le _, rfl, hO, hide (by simp), hide fun k hk => by omega, B⟩
  case round =>
    obtain ⟨i, xs, hi, rfl, hO, hl, hk, B⟩ := hrel
    by_cases hil : i < m
    · have hi64 : (i : Int) < (m : Int) := by omega
      have cO := hO.out.cell (j := i) (by rw [hl.out]; exact hil)
      have fO := hO.out.frozen i
      have hS2 := hide (hO.out.set (j := i) (z := (i : Int)) (I64.of (by omega)))
      have hl2 := hide (show (xs.set i (i : Int)).length = m by rw [List.length_set]; exact hl.out)
      have hk2 := hide (show ∀ k, k < i + 1 → li (xs.set i (i : Int)) k = (k : Int) from fun k hk' => by
        by_cases e : k = i
        · subst e; exact li_set_same (by rw [hl.out]; exact hil)
        · rw [li_set_ne (fun x => e x.symm)]; exact hk.out k (by omega))
      have B2 := hide (show Below w.heap.size w (wr.setCell ⟨g, i, none⟩ (.int .i64 (i : Int))) from B.out.setCell hgo.out _)
      clear hO hl hk
      go_wp2
      go_roundw
      case rel => exact ⟨i + 1, _, by omega, by go_num, hS2, hl2, hk2, B2⟩
      case measure => simp [intOf]; omega
    · obtain rfl : i = m := by omega
      have hxs := ids_eq hl.out hk.out
      subst hxs
      clear hl hk hi
      go_wp2
      go_loopw [0, 8] (fun dv iv wr => ∃ (s : Nat) (z : Int) (l : List Int), s < 18446744073709551616 ∧ -1 ≤ z ∧ z < (i : Int) ∧ dv = .int .u64 (s : Int) ∧ iv = .int .i64 z ∧ Hid (OwnI wr g (.slice (some ⟨g, 0, none⟩) i i) l) ∧ Hid (l.length = i) ∧ Hid (shL z.toNat s l = T) ∧ Hid (dit z.toNat s = S) ∧ Hid (Below w.heap.size w wr)) (fun _ iv _ => (intOf iv).toNat)
      case atStart => exact ⟨d, (i : Int) - 1, _, hd, by omega, by omega, rfl, by go_num, hO, hide (id_length i), hide (by rw [show ((i : Int) - 1).toNat = i - 1 by omega]; exact hTe.out), hide (by rw [show ((i : Int) - 1).toNat = i - 1 by omega]; exact hSe.out), B⟩
      case round =>
        clear hO hTe hSe B
        obtain ⟨s, z, l, hs, hz0, hz1, rfl, rfl, hO, hl, hT, hS, B⟩ := hrel
        by_cases hzp : 1 ≤ z
        · obtain ⟨j, rfl⟩ : ∃ j : Nat, z = ((j + 1 : Nat) : Int) := ⟨z.toNat - 1, by omega⟩
          have hT2 := hT.out
          have hS2 := hS.out
          rw [Int.toNat_natCast, shL] at hT2
          rw [Int.toNat_natCast, dit] at hS2
          have hji : j + 1 < i := by omega
          have hbl := bw_lt (s := s) (n := ((j + 2 : Nat) : Int)) (by simp only [bwB, decide_eq_true_eq]; omega)
          have hbs : bwS s ((j + 2 : Nat) : Int) = dnx s := bwS_nat (by omega) (by omega)
          have hcall := hide (below_p (w := wr) (n := ((j + 2 : Nat) : Int)) hs (I64.of (by omega)))
          rw [hbs] at hcall
          obtain ⟨k, hk⟩ : ∃ k, k = bwN s ((j + 2 : Nat) : Int) := ⟨_, rfl⟩
          obtain ⟨s2, hs2⟩ : ∃ s2, s2 = dnx s := ⟨_, rfl⟩
          have hs2l := dnx_lt s
          rw [← hk] at hcall hbl hT2
          rw [← hs2] at hcall hT2 hS2 hs2l
          have hki : k < i := by omega
          have ej : ((j + 1 : Nat) : Int) + 1 = ((j + 2 : Nat) : Int) := by omega
          obtain ⟨j1, hj1⟩ : ∃ j1, j1 = j + 1 := ⟨_, rfl⟩
          obtain ⟨j2, hj2⟩ : ∃ j2, j2 = j + 2 := ⟨_, rfl⟩
          rw [← hj1, ← hj2] at ej
          rw [← hj2] at hcall
          rw [← hj1] at hT2 hji ⊢
          have wj : IntKind.i64.wrap (j2 : Int) = (j2 : Int) := wrap_i (by omega)
          replace hT := hide hT2
          replace hS := hide hS2
          have hjj := hide hj1
          have hj1p : 1 ≤ j1 := by omega
          have d4 : decide ((1 : Int) ≤ (j1 : Int)) = true := by simp; omega
          clear hT2 hS2 hbl hbs hk hs2 hzp hj2 hj1 hz0 hz1
          go_wp2_with fail
          refine hcall.out.mono ?_
          rintro e w2 ⟨rfl, hb⟩
          replace B := hide (Below.then_ B.out hb)
          replace hO := hide (hO.out.then_ hb)
          clear hb hcall
          have cj := hO.out.cell (j := j1) (by rw [hl.out]; exact hji)
          have ck := hO.out.cell (j := k) (by rw [hl.out]; exact hki)
          have fj := hO.out.frozen j1
          have fk := hO.out.frozen k
          have hj64 : (j1 : Int) < (i : Int) := by omega
          have hk64 : (k : Int) < (i : Int) := by omega
          have hls := hide (show (swI l j1 k).length = i by rw [sw_length]; exact hl.out)
          obtain ⟨lj, hlj⟩ : ∃ x, x = li l j1 := ⟨_, rfl⟩
          obtain ⟨lk, hlk⟩ : ∃ x, x = li l k := ⟨_, rfl⟩
          have hij := hO.out.2.1 j1
          have hik := hO.out.2.1 k
          have hsw : swI l j1 k = (l.set j1 lk).set k lj := by rw [swI, hlj, hlk]
          rw [← hlj] at cj hij
          rw [← hlk] at ck hik
          have hOs := hO.out.set (j := j1) hik
          have ck2 := hOs.cell (j := k) (by rw [List.length_set, hl.out]; exact hki)
          have fk2 := hOs.frozen k
          have hO3 := hide ((hOs.set (j := k) hij).drew)
          rw [← hsw] at hO3
          have B3 := hide (Below.then_ ((B.out.setCell (p := ⟨g, j1, none⟩) hgo.out (.int .i64 lk)).setCell (p := ⟨g, k, none⟩) hgo.out (.int .i64 lj)) (Below.drw_ _))
          clear hlj hlk hsw hij hik hO B hOs
          go_wp2_with fail
          go_region
          all_goals
            clear cj ck fj fk ck2 fk2
            go_wp2
            go_roundw
            case rel => exact ⟨s2, (j : Int), _, hs2l, by omega, by have := hjj.out; omega, rfl, by have := hjj.out; go_num, hO3, hls, hide (by rw [Int.toNat_natCast]; exact hT.out), hide (by rw [Int.toNat_natCast]; exact hS.out), B3⟩
            case measure => have := hjj.out; simp [intOf]; omega
        · have dz : decide ((1 : Int) ≤ z) = false := decide_eq_false hzp
          have e1 := hT.out
          have e2 := hS.out
          rw [show z.toNat = 0 by omega, shL] at e1
          rw [show z.toNat = 0 by omega, dit] at e2
          subst e1 e2
          obtain ⟨A2, n2, c2, e3, hR⟩ := hO.out.rd (by rw [hl.out]; omega)
          simp only [Value.slice.injEq] at e3
          obtain ⟨rfl, rfl, rfl⟩ := e3
          replace hR := hide hR
          clear hO hT hS hzp
          go_wp2
          go_ret2
          exact ⟨_, _, _, rfl, hR.out, B.out⟩
end Go.Proofs.Ytdihgmbldnekhaa
