/-
  Draws at literals; awake of the laws of draws.
-/
import Derived.Test.YtdihgmbldnekhaaDrw4
import Derived.Test.YtdihgmbldnekhaaDrw7
import Derived.Test.YtdihgmbldnekhaaDrw9
namespace Go.Proofs.Ytdihgmbldnekhaa
open Go.RowKit

theorem next0 (w : World) : Calls Try.prog 21 #[.int .u64 0] w (RetB w (.tuple #[.int .u32 335903614, .int .u64 1442695040888963407])) := by
  have h := next_p (w := w) (d := 0) (by decide)
  rw [show dup 0 = 335903614 by decide +kernel, show dnx 0 = 1442695040888963407 by decide +kernel] at h
  exact h
theorem new0 (w : World) : Calls Try.prog 23 #[.int .u64 0] w (RetB w (.int .u64 1442695040888963407)) := by
  have h := new_p (w := w) (d := 0) (by decide)
  rw [show dnx 0 = 1442695040888963407 by decide +kernel] at h
  exact h
theorem below0 (w : World) : Calls Try.prog 28 #[.int .u64 0, .int .i64 1000] w (RetB w (.tuple #[.int .i64 78, .int .u64 1442695040888963407])) := by
  have h := below_p (w := w) (d := 0) (n := 1000) (by decide) ⟨by decide, by decide⟩
  rw [show bwN 0 1000 = 78 by decide +kernel, show bwS 0 1000 = 1442695040888963407 by decide +kernel] at h
  exact h
theorem shuffle0 (w : World) : Calls Try.prog 32 #[.int .u64 0, .int .i64 2] w (RetLS w [1, 0] 1442695040888963407) := by
  have h := shuffle_p (w := w) (d := 0) (n := 2) (by decide) ⟨by decide, by decide⟩
  rw [show suL 0 2 = [1, 0] by decide +kernel, show suS 0 2 = 1442695040888963407 by decide +kernel] at h
  exact h
theorem pick0 {w : World} {Bd n c : Nat} {A : Option Addr} (hx : RdI w Bd A n c [0, 5, 5]) (hB : Bd ≤ w.heap.size) : Calls Try.prog 35 #[.int .u64 0, .slice A n c] w (RetB w (.tuple #[.int .i64 1, .int .u64 1442695040888963407])) := by
  have h := pick_p (w := w) (d := 0) (by decide) hx hB
  rw [show pkI 0 [0, 5, 5] = 1 by decide +kernel, show pkS 0 [0, 5, 5] = 1442695040888963407 by decide +kernel] at h
  exact h
theorem of110 (w : World) : Calls Try.prog 38 #[.int .i64 1, .int .i64 10] w (RetNB w 2 (1/10) true) := of_q (x := 1) (y := 10) (by decide) (by decide) (by decide) (by decide) (by decide +kernel) (by decide)
theorem chance0 {w : World} {Bd L : Nat} {x : Rc} (hx : Rq w Bd L x (1/10)) (gL : L ≤ 100000000) (hB : Bd ≤ w.heap.size) : Calls Try.prog 30 #[.int .u64 0, .agg #[.bool x.s, .slice x.A x.n x.c, .slice x.B x.m x.d]] w (RetB w (.tuple #[.bool true, .int .u64 1442695040888963407])) := by
  have h := chance_p (w := w) (d := 0) (by decide) hx gL hB
  rw [show chB 0 (1/10) = true by unfold chB; decide +kernel, show dnx 0 = 1442695040888963407 by decide +kernel] at h
  exact h
theorem rdi_lit (w : World) {n : Nat} (zs : List Int) (hn : zs.length = n) (hl : n ≤ 100) (hw : ∀ j, I64 (li zs j)) : RdI (w.alloc (.cells (zs.map (Value.int .i64)).toArray 3)) (w.alloc (.cells (zs.map (Value.int .i64)).toArray 3)).heap.size (some ⟨w.heap.size, 0, none⟩) n n zs :=
  ⟨hn, hw, Nat.le_refl _, by omega, by omega, fun _ => ⟨_, rfl, by simp, fun j hj => by
    rw [Addr.add_lit, Nat.zero_add]
    refine (cell_of_row _ _ j _ _ (0, 0) (heap_alloc_new w _)).trans ?_
    rw [List.getElem?_toArray, List.getElem?_map, li_get? (by omega)]
    rfl⟩⟩
theorem wf_small {zs : List Int} (h : ∀ z ∈ zs, 0 ≤ z ∧ z ≤ 100) (j : Nat) : I64 (li zs j) := by
  unfold li List.getD
  cases e : zs[j]? with
  | none => exact ⟨by decide, by decide⟩
  | some z =>
    have := h z (List.mem_of_getElem? e)
    exact ⟨by show _ ≤ z; omega, by show z < _; omega⟩
set_option maxHeartbeats 16000000 in
set_option maxRecDepth 100000 in
theorem awake_d {w : World} : Calls Try.prog 27 #[] w (RetB w (.bool true)) := by
  have B := hide (Below.refl w.heap.size w)
  go_enter Try.func27, Try.ntmps27
  go_wp2_with fail
  refine (next0 _).mono ?_
  rintro e w1 ⟨rfl, hb⟩
  replace B := hide (Below.then_ B.out hb)
  clear hb
  go_wp2_with fail
  refine (below0 _).mono ?_
  rintro e w2 ⟨rfl, hb⟩
  replace B := hide (Below.then_ B.out hb)
  clear hb
  go_wp2_with fail
  refine (shuffle0 _).mono ?_
  rintro e w3 ⟨A_l, n_l, c_l, rfl, H_l, hb⟩
  replace B := hide (Below.then_ B.out hb)
  clear hb
  replace H_l := hide H_l
  go_wp2_with fail
  refine (pick0 (rdi_lit _ [0, 5, 5] rfl (by decide) (wf_small (by decide))) (Nat.le_refl _)).mono ?_
  rintro e w4 ⟨rfl, hb⟩
  replace hb := Below.al_then hb
  replace H_l := hide (H_l.out.then_ hb)
  replace B := hide (Below.then_ B.out hb)
  clear hb
  go_wp2_with fail
  refine (of110 _).mono ?_
  rintro e w5 ⟨x_r, rfl, H_r, hb⟩
  replace H_l := hide (H_l.out.then_ hb)
  replace B := hide (Below.then_ B.out hb)
  clear hb
  replace H_r := hide H_r
  have b_r := hide (Box3.new w5 (.bool x_r.s) (.slice x_r.A x_r.n x_r.c) (.slice x_r.B x_r.m x_r.d) rfl)
  have hb : Below w5.heap.size w5 (w5.alloc (.cells #[.bool x_r.s, .slice x_r.A x_r.n x_r.c, .slice x_r.B x_r.m x_r.d] 27)) := Below.al_ (Below.refl _ _) _
  replace H_l := hide (H_l.out.then_ hb)
  replace H_r := hide (H_r.out.then_ hb)
  replace B := hide (Below.then_ B.out hb)
  clear hb
  have c_r0 := b_r.out.at0 b_r.out.lt_size (Nat.le_refl _) _ (Below.refl _ _)
  have c_r1 := b_r.out.at1 b_r.out.lt_size (Nat.le_refl _) _ (Below.refl _ _)
  have c_r2 := b_r.out.at2 b_r.out.lt_size (Nat.le_refl _) _ (Below.refl _ _)
  go_wp2_with fail
  refine (chance0 H_r.out.rq (by decide) (Nat.le_refl _)).mono ?_
  rintro e w6 ⟨rfl, hb⟩
  replace H_l := hide (H_l.out.then_ hb)
  replace H_r := hide (H_r.out.then_ hb)
  replace b_r := hide (b_r.out.keep hb)
  replace B := hide (Below.then_ B.out hb)
  clear hb
  clear c_r0 c_r1 c_r2
  go_wp2_with fail
  refine (new0 _).mono ?_
  rintro e w7 ⟨rfl, hb⟩
  replace H_l := hide (H_l.out.then_ hb)
  replace H_r := hide (H_r.out.then_ hb)
  replace b_r := hide (b_r.out.keep hb)
  replace B := hide (Below.then_ B.out hb)
  clear hb
  go_wp2_with fail
  refine (eqi_p (H_l.out.then_ (Below.al_ (Below.refl _ _) _)) (rdi_lit _ [1, 0] rfl (by decide) (wf_small (by decide))) rfl).mono ?_
  rintro e w8 ⟨rfl, hb⟩
  replace hb := Below.al_then hb
  replace H_l := hide (H_l.out.then_ hb)
  replace H_r := hide (H_r.out.then_ hb)
  replace b_r := hide (b_r.out.keep hb)
  replace B := hide (Below.then_ B.out hb)
  clear hb
  go_wp2
  go_ret
  exact ⟨rfl, B.out⟩
end Go.Proofs.Ytdihgmbldnekhaa
