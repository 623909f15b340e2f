/-
  Print.
-/
import Derived.Test.YtjbbapibpcgnhaaShort
import Derived.Test.YtjbbapibpcgnhaaTextMath
import Derived.Laws.BytesArg
namespace Go.Proofs.Ytjbbapibpcgnhaa
open Go.RowKit

theorem Own.dig {w : World} {g : Nat} {os : List Nat} (h : Own w g os) : Own w g (dig (val os)) := by
  have hl := dig_len_val h.limbs
  refine ⟨Limbs_dig _, ?_⟩
  obtain ⟨cur, hg, hc⟩ := h.blk
  refine ⟨cur, hg, fun j hj => ?_⟩
  rw [hc j (by omega)]
  have := vl_inj h.limbs (Limbs_dig (val os)) os.length (by rw [vl_ge (Nat.le_refl _), vl_ge hl, val_dig]) j (by omega)
  rw [this]

/-- A block of N bytes of the call's own, the digits D at its end, from st on. -/
structure OwnB (w : World) (g N st : Nat) (D : List Nat) : Prop where
  len : st + D.length = N
  blk : ∃ cur : Array Value, w.heap[g]? = some (.cells cur 5 (0, 0)) ∧ cur.size = N ∧ (∀ j, j < N → ∃ x : Int, cur[j]? = some (.int .u8 x)) ∧ ∀ j, j < D.length → cur[st + j]? = some (.int .u8 (lm D j : Int))
section
variable {w w' : World} {g N st : Nat} {D : List Nat}
theorem OwnB.cell (h : OwnB w g N st D) {j : Nat} (hj : j < N) : ∃ x : Int, w.cell? ⟨g, j, none⟩ = some (.int .u8 x) := by
  obtain ⟨cur, hg, _, hc, _⟩ := h.blk
  obtain ⟨x, hx⟩ := hc j hj
  exact ⟨x, by rw [cell_of_row w g j cur _ (0, 0) hg]; exact hx⟩
theorem OwnB.digit (h : OwnB w g N st D) {j : Nat} (hj : j < D.length) : w.cell? ⟨g, st + j, none⟩ = some (.int .u8 (lm D j : Int)) := by
  obtain ⟨cur, hg, _, _, hc⟩ := h.blk
  rw [cell_of_row w g _ cur _ (0, 0) hg]
  exact hc j hj
theorem OwnB.frozen (h : OwnB w g N st D) (j : Nat) : w.frozen? ⟨g, j, none⟩ = false := by
  obtain ⟨cur, hg, _⟩ := h.blk
  exact frozen_of_row w g j cur _ hg
theorem OwnB.lt (h : OwnB w g N st D) : g < w.heap.size := by
  obtain ⟨cur, hg, _⟩ := h.blk
  exact (Array.getElem?_eq_some_iff.1 hg).1
theorem OwnB.block (h : OwnB w g N st D) (hb : w'.heap[g]? = w.heap[g]?) : OwnB w' g N st D := ⟨h.len, by
  obtain ⟨cur, hg, hc⟩ := h.blk
  exact ⟨cur, hb.trans hg, hc⟩⟩
theorem OwnB.grown {row : Option Nat} (h : OwnB w g N st D) (hb : w.grownBy w' row) (hg : some g ≠ row) : OwnB w' g N st D := h.block (hb.block g h.lt hg)
theorem OwnB.put (h : OwnB w g N (st + 1) D) {x : Nat} {u : Int} (hu : u = (x : Int)) : OwnB (w.setCell ⟨g, st, none⟩ (.int .u8 u)) g N st (x :: D) := by
  subst hu
  have hl := h.len
  refine ⟨by simp; omega, ?_⟩
  obtain ⟨cur, hg, hs, hc, hd⟩ := h.blk
  refine ⟨cur.setIfInBounds st (.int .u8 (x : Int)), heap_setCell_same w g st cur _ _ hg, by simpa using hs, fun j hj => ?_, fun j hj => ?_⟩
  · rw [Array.getElem?_setIfInBounds]
    by_cases h : st = j
    · rw [if_pos h, if_pos (by omega)]; exact ⟨_, rfl⟩
    · rw [if_neg h]; exact hc j hj
  · rw [Array.getElem?_setIfInBounds]
    cases j with
    | zero => rw [if_pos (by omega), if_pos (by omega)]; rfl
    | succ j =>
      rw [if_neg (by omega), lm_cons_succ, show st + (j + 1) = st + 1 + j by omega]
      exact hd j (by simpa using hj)
end

theorem Try.infoByte : (Try.prog.info? 5).map (fun i => (i.zero, i.size, i.bytes)) = some (some (.int .u8 0), 1, 1) := by kernel_rfl

/-- 'make([]byte, n)' -/
theorem wpList_make_bytes {ops : Array Oper} {rest : List Oper} {o : Oper} {a : Act} {Q : Exit → Act → World → Prop} (w : World)
    (hg : o.guard = none) (l c : Operand) (hop : o.op = Op.makeSlice 65 l c) (kl kc : IntKind) (L C : Int) (n : Nat) (hl : a.eval l = .int kl L) (hc : a.eval c = .int kc C) (hL : L = (n : Int)) (hC : C = (n : Int)) (hn : n ≤ 281474976710656)
    (hK : ∀ w1, OwnB w1 w.heap.size n n [] → Below w.heap.size w w1 → wpList Try.prog ops Q rest (a.put o.dst (.slice (some ⟨w.heap.size, 0, none⟩) n n)) w1) :
    wpList Try.prog ops Q (o :: rest) a w := by
  obtain ⟨i0, hi, hz0, hz1, hz2⟩ := info_parts Try.infoByte
  refine wpList_make_full w hg l c 65 hop w.heap.size 5 i0 (.int .u8 0) 1 Try.underlying65 hi hz0 hz1 kl kc L C n hl hc hL hC (by rw [hz2]; omega) (by simp only [maxLen]; omega) (Nat.le_refl _) ?_
  intro w1 hown hgrow
  have hO : OwnB w1 w.heap.size n n [] := by
    refine ⟨by simp, ?_⟩
    rcases hown.2 with ⟨h, _⟩ | ⟨g, cap, cur, hv, _, hh, hnc, hcm, hcs, ht⟩
    · simp at h
    · simp only [Value.slice.injEq, Option.some.injEq, Addr.mk.injEq, and_true, true_and] at hv
      obtain ⟨rfl, rfl⟩ := hv
      refine ⟨cur, hh, by omega, fun j hj => ⟨0, ?_⟩, fun j hj => absurd hj (by simp)⟩
      have e : (cur.toList.take (n * 1))[j]? = cur[j]? := by rw [List.getElem?_take, if_pos (by omega), Array.getElem?_toList]
      rw [← e, ht, Nat.mul_one]
      show ((madeCells #[.int .u8 0] n).toList)[j]? = _
      rw [toList_madeCells_one, List.getElem?_replicate, if_pos hj]
  exact hK w1 hO ((Below.refl _ _).grown hgrow (Nat.le_refl _) (by simp))

/-- bytes as a string -/
def strN (l : List Nat) : ByteArray := strOfNums (l.map fun x : Nat => (x : Int))

/-- the digits written so far -/
def PrRel (w : World) (g gt N V st : Nat) (D : List Nat) (wr : World) : Prop :=
  Own wr g (dig V) ∧ OwnB wr gt N st D ∧ Below w.heap.size w wr
/-- of the rest R and the digits behind it m is made -/
def PrVal (m R : Nat) (D : List Nat) : Prop := ddig m = ddig R ++ D
theorem PrVal.room {m R N st : Nat} {D : List Nat} (h : PrVal m R D) (hm : m < 10 ^ N) (hl : st + D.length = N) (hR : R ≠ 0) : 0 < st := by
  have h1 := (ddig_len N m).2 hm
  rw [h, List.length_append] at h1
  have := ddig_len_pos hR
  omega
theorem PrVal.step {m V c i : Nat} {D : List Nat} (h : PrVal m (V * 10 ^ (9 - i) + c) D) (hi : i < 9) (h0 : V * 10 ^ (9 - i) + c ≠ 0) : PrVal m (V * 10 ^ (9 - (i + 1)) + c / 10) ((48 + c % 10) :: D) := by
  unfold PrVal at *
  rw [h, ddig_pos h0, (rest_step V c i hi).1, (rest_step V c i hi).2]
  simp

set_option maxHeartbeats 2000000 in
theorem print_any (w : World) (Bd : Nat) (A : Option Addr) (n c : Nat) (xs : List Nat) (h : Rd w Bd A n c xs) (hB : Bd ≤ w.heap.size) (hn : n ≤ 17592186044416) :
    Calls Try.prog 61 #[.slice A n c] w fun e w' => e = .returned (.string (strN (dec (val xs)))) ∧ Below w.heap.size w w' := by
  have hl : (dig (val xs)).length ≤ n := by rw [← h.len]; exact dig_len_val h.limbs
  have H := hide h
  clear h
  obtain ⟨m, hm⟩ : ∃ m, m = val xs := ⟨_, rfl⟩
  rw [← hm] at hl ⊢
  replace hm := hide hm
  obtain ⟨L, hL⟩ : ∃ L, L = (dig m).length := ⟨_, rfl⟩
  by_cases h0 : m = 0
  · have hnorm := norm_any w Bd A n c xs H.out hB
    rw [← hm.out, h0, show (RetOwn w 0) = (fun e w' => RetOwn w 0 e w') from rfl] at hnorm
    have hdec : Hid (strN (dec m) = ⟨#[48]⟩) := hide (by rw [h0]; rfl)
    replace hnorm := hide hnorm
    replace hm := hide hm
    clear hL hl
    go_enter Try.func61, Try.ntmps61
    go_wp2_with fail
    refine hnorm.out.mono ?_
    rintro e w1 ⟨rfl, hown, hb, hlm⟩
    rw [dig_zero]
    replace hown := hide hown
    replace hb := hide hb
    clear hlm
    go_wp2
    go_ret
    rw [hdec.out]
    exact ⟨rfl, hb.out⟩
  · rw [← hL] at hl
    have hL0 : 0 < L := by
      rw [hL]
      rcases Nat.eq_zero_or_pos (dig m).length with h | h
      · exact absurd (dig_len_zero.1 h) h0
      · exact h
    have hten : Hid (m < 10 ^ (10 * L)) := hide (by
      have h1 := (dig_len_le m L).1 (by omega)
      have h2 := pw_le_ten L
      omega)
    have hdec : Hid (dec m = ddig m) := hide (by unfold dec; rw [if_neg h0])
    replace hL := hide hL
    replace h0 := hide h0
    have hnorm := fun (W : World) (hR : Rd W Bd A n c xs) (hb : Bd ≤ W.heap.size) => norm_any W Bd A n c xs hR hb
    rw [← hm.out] at hnorm
    replace hnorm := hide hnorm
    go_enter Try.func61, Try.ntmps61
    go_wp2_with fail
    refine (hnorm.out w H.out hB).mono ?_
    rintro e w1 ⟨rfl, hown, hb, hlm⟩
    rw [← hL.out] at hlm ⊢
    replace hown := hide hown
    have hs1 : w.heap.size < w1.heap.size := hown.out.lt
    replace hb := hide hb
    go_wp2_with (at_make; refine wpList_make_bytes _ rfl _ _ rfl _ _ _ _ (10 * L) rfl rfl (by omega) (by omega) (by omega) ?_; intro w2 hownB hb2)
    have hgt : w.heap.size < w1.heap.size := hs1
    generalize w1.heap.size = gt at *
    have hstart := hide (show PrRel w w.heap.size gt (10 * L) m (10 * L) [] w2 from ⟨hown.out.below hb2 hgt, hownB, hb.out.trans (hb2.mono (by omega))⟩)
    clear hb2 hownB
    go_loopw [3, 5] (fun left start wr => ∃ (V Lv cap st : Nat) (D : List Nat), left = .slice (some ⟨w.heap.size, 0, none⟩) Lv cap ∧ start = .int .i64 (st : Int) ∧ Hid (Lv = (dig V).length) ∧ Lv ≤ L ∧ Lv ≤ cap ∧ cap ≤ L ∧ (0 < Lv ↔ V ≠ 0) ∧ Hid (PrVal m V D) ∧ st ≤ 10 * L ∧ PrRel w w.heap.size gt (10 * L) V st D wr) (fun _ start _ => (intOf start).toNat)
    case atStart => exact ⟨m, L, L, 10 * L, [], rfl, by go_num, hL, by omega, by omega, by omega, ⟨fun _ => h0.out, fun _ => hL0⟩, hide (by simp [PrVal]), by omega, hstart.out⟩
    case round =>
      obtain ⟨V, Lv, cap, st, D, rfl, rfl, hLv, h1, h2, h3, h4, hV, hst, hO, hOB, hBl⟩ := hrel
      have hgs := hide hO.lt
      by_cases hV0 : V = 0
      · have hLz : Lv = 0 := by
          rcases Nat.eq_zero_or_pos Lv with h | h
          · exact h
          · exact absurd hV0 (h4.1 h)
        have hlenB := hOB.len
        have hD : Hid (dec m = D) := hide (by
          rw [hdec.out]
          have := hV.out
          rw [hV0] at this
          unfold PrVal at this
          rw [this, ddig_zero]; simp)
        have hcv := run_convert_bytes_arg (P := Try.prog) wr 65 5 Try.underlying65 Try.underlying5 gt st (10 * L - st) (10 * L - st) (D.map fun x : Nat => (x : Int)) (by rw [List.length_map]; omega) (fun i hi => by
          rw [hOB.digit (by omega)]
          simp [lm, show i < D.length by omega]) 9 Try.underlying9
        replace hO := hide hO
        replace hOB := hide hOB
        replace hBl := hide hBl
        replace h4 := hide h4
        replace hV0 := hide hV0
        have hlt : st < 10 * L := by
          have h5 := ddig_len_pos h0.out
          rw [← hdec.out, hD.out] at h5
          omega
        clear hlenB
        subst hLz
        go_wp2
        go_ret
        rw [hD.out]
        exact ⟨rfl, hBl.out⟩
      · have hLp := h4.2 hV0
        have hDiv : ∀ (W : World) (_ : Own W w.heap.size (dig V)), Calls Try.prog 71 #[.slice (some ⟨w.heap.size, 0, none⟩) Lv cap, .int .u32 1000000000] W (RetDiv W w.heap.size (dig V) 1000000000) := fun W hOw => divideByLimb_any W w.heap.size Lv cap (dig V) 1000000000 hOw hLv.out.symm (by omega) (by omega) (by omega)
        replace hDiv := hide hDiv
        replace hO := hide hO
        replace hOB := hide hOB
        replace hBl := hide hBl
        replace h4 := hide h4
        replace hV0 := hide hV0
        go_wp2_with fail
        refine (hDiv.out wr hO.out).mono ?_
        rintro e' w3 ⟨os', rfl, hlo, hvo, hO3, hgr⟩
        rw [val_dig] at hvo
        have hR3 := hO3.rd0 (c := cap) (by rw [hlo, ← hLv.out]; exact h2) (by omega) (B := w3.heap.size) hO3.lt
        rw [hlo, ← hLv.out] at hR3
        have hO4 := hO3.dig
        rw [hvo] at hO4
        obtain ⟨U, hU⟩ : ∃ U, U = V / 1000000000 := ⟨_, rfl⟩
        obtain ⟨cc, hcc⟩ : ∃ cc, cc = val (dig V) % 1000000000 := ⟨_, rfl⟩
        have hccl : cc < 1000000000 := by rw [hcc]; omega
        rw [← hcc]
        rw [val_dig] at hcc
        rw [← hU] at hO4 hvo
        have hVU : Hid (V = U * 10 ^ (9 - 0) + cc) := hide (by rw [hU, hcc]; omega)
        have hOB3 := hide (hOB.out.grown hgr (by simp; omega))
        have hBl3 := hide (hBl.out.grown hgr (Nat.le_of_lt hgs.out) (by simp))
        obtain ⟨Lu, hLu⟩ : ∃ Lu, Lu = (dig U).length := ⟨_, rfl⟩
        have hLuL : Lu ≤ Lv := by
          rw [hLu, ← hvo, hLv.out, ← hlo]
          exact dig_len_val hO3.limbs
        have hU4 : 0 < Lu ↔ U ≠ 0 := by
          have := dig_len_zero (n := U)
          rw [← hLu] at this
          omega
        have hvo' : (dig (val os')).length = Lu := by rw [hvo, hLu]
        replace hvo' := hide hvo'
        replace hLu := hide hLu
        replace hO4 := hide hO4
        replace hR3 := hide hR3
        clear hU hcc hlo hvo hO3 hgr
        go_wp2_with (go_at_call 63; ((with_reducible refine (trim_to _ _ _ _ _ _ hR3.out Lu hvo'.out).mono ?_); rintro e' w' ⟨rfl, rfl⟩))
        have hst3 := hide (show PrRel w w.heap.size gt (10 * L) U st D w3 from ⟨hO4.out, hOB3.out, hBl3.out⟩)
        have hVi := hide (show PrVal m (U * 10 ^ (9 - 0) + cc) D by rw [← hVU.out]; exact hV.out)
        have hne := hide (show U * 10 ^ (9 - 0) + cc ≠ 0 by rw [← hVU.out]; exact hV0.out)
        clear hO4 hOB3 hBl3 hO hOB hBl hDiv hR3 hV hVU
        go_loopw [5, 6, 7] (fun start ch i wr => ∃ (st' q j : Nat) (D' : List Nat), start = .int .i64 (st' : Int) ∧ ch = .int .u32 (q : Int) ∧ i = .int .i64 (j : Int) ∧ j ≤ 9 ∧ q < 1000000000 ∧ Hid (q < 10 ^ (9 - j)) ∧ Hid (PrVal m (U * 10 ^ (9 - j) + q) D') ∧ st' ≤ 10 * L ∧ st' ≤ st ∧ (j = 0 → U * 10 ^ (9 - 0) + q ≠ 0) ∧ (j ≠ 0 → st' < st) ∧ PrRel w w.heap.size gt (10 * L) U st' D' wr) (fun _ _ i _ => 9 - (intOf i).toNat)
        case atStart => exact ⟨st, cc, 0, D, rfl, rfl, rfl, by omega, hccl, hide (by simpa using hccl), hVi, hst, by omega, fun _ => hne.out, by omega, hst3.out⟩
        case round =>
          obtain ⟨st', q, j, D', rfl, rfl, rfl, hj, hq, hq9, hPV, hst1, hst2, hj0, hj1, hO5, hOB5, hBl5⟩ := hrel
          have hgs5 := hide hO5.lt
          have hlenB := hOB5.len
          by_cases hc : j < 9 ∧ (0 < q ∨ 0 < Lu)
          · obtain ⟨hj9, hor⟩ := hc
            have hR : U * 10 ^ (9 - j) + q ≠ 0 := by
              rcases hor with h | h
              · omega
              · have h5 := hU4.1 h
                have h6 : 0 < 10 ^ (9 - j) := Nat.pow_pos (by omega)
                have h7 := Nat.mul_pos (Nat.pos_of_ne_zero h5) h6
                omega
            have hroom := hPV.out.room hten.out hlenB hR
            obtain ⟨t, rfl⟩ : ∃ t, st' = t + 1 := ⟨st' - 1, by omega⟩
            obtain ⟨x, hcell⟩ := hOB5.cell (j := t) (by omega)
            have hfro := hOB5.frozen t
            have hnext := hide (hPV.out.step hj9 hR)
            have hq10 : Hid (q / 10 < 10 ^ (9 - (j + 1))) := hide (by
              have h5 := hq9.out
              have e : 10 ^ (9 - j) = 10 ^ (9 - (j + 1)) * 10 := by rw [← Nat.pow_succ]; congr 1; omega
              rw [e] at h5
              omega)
            replace hO5 := hide hO5
            replace hOB5 := hide hOB5
            replace hBl5 := hide hBl5
            replace hj0 := hide hj0
            replace hj1 := hide hj1
            replace hU4 := hide hU4
            clear hR hroom hlenB
            rcases (show 0 < q ∨ (¬ 0 < q ∧ 0 < Lu) by omega) with hor2 | ⟨hor2, hor3⟩
            all_goals
              clear hor
              go_wp2
              go_roundw
              case rel =>
                refine ⟨t, q / 10, j + 1, (48 + q % 10) :: D', rfl, by go_num, by go_num, by omega, by omega, hq10, hnext, by omega, by omega, by omega, fun _ => by omega, hO5.out.block (Below.heap_setCell _ _ _ _ (by simp; omega)), hOB5.out.put (by omega), hBl5.out.setCell (by simp; omega) _⟩
              case measure => simp [intOf]; omega
          · have hR : U * 10 ^ (9 - j) + q = U := by
              by_cases hj9 : j = 9
              · subst hj9
                have := hq9.out
                simp at this ⊢
                exact this
              · have hq0 : q = 0 := by omega
                have hLu0 : ¬ 0 < Lu := by omega
                have hU0 : U = 0 := by
                  apply Classical.byContradiction
                  intro h
                  exact hLu0 (hU4.2 h)
                rw [hq0, hU0]; simp
            have hj0' : j ≠ 0 := by
              rintro rfl
              have h5 := hj0 rfl
              rw [hR] at h5
              exact hc ⟨by omega, Or.inr (hU4.2 h5)⟩
            have hsl := hj1 hj0'
            have hPV2 := hide (show PrVal m U D' by have := hPV.out; rw [hR] at this; exact this)
            replace hO5 := hide hO5
            replace hOB5 := hide hOB5
            replace hBl5 := hide hBl5
            have hU5 := hide hU4
            clear hR hj0 hj1 hj0' hlenB hPV hU4
            rcases (show 9 ≤ j ∨ (j < 9 ∧ ¬ 0 < q ∧ ¬ 0 < Lu) by omega) with hd | ⟨hd1, hd2, hd3⟩
            all_goals
              clear hc
              go_wp2
              go_roundw
              case rel => exact ⟨U, Lu, cap, st', D', rfl, rfl, hLu, by omega, by omega, h3, hU5.out, hPV2, by omega, hO5.out, hOB5.out, hBl5.out⟩
              case measure => simp [intOf]; omega

end Go.Proofs.Ytjbbapibpcgnhaa
