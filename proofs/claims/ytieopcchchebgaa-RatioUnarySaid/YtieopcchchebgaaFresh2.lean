/-
  Of 1, signed, Make and Norm of ratio, where what is handed back lies in blocks of its own.
-/
import Derived.Test.YtieopcchchebgaaFresh
import Derived.Test.YtieopcchchebgaaRat3
namespace Go.Proofs.Ytieopcchchebgaa
open Go.RowKit

theorem Fresh.keep {w0 w w' : World} {A : Option Addr} {n : Nat} (h : Fresh w0 w A n) (hb : Below w.heap.size w w') : Fresh w0 w' A n := fun h0 => by
  obtain ⟨g, os, e, hg, hO, hn⟩ := h h0
  exact ⟨g, os, e, hg, hO.below hb hO.lt, hn⟩
theorem Fresh.before {w0 w1 w : World} {A : Option Addr} {n : Nat} (h : Fresh w1 w A n) (hb : w0.heap.size ≤ w1.heap.size) : Fresh w0 w A n := fun h0 => by
  obtain ⟨g, os, e, hg, hO, hn⟩ := h h0
  exact ⟨g, os, e, Nat.le_trans hb hg, hO, hn⟩
theorem Fresh.none_ {w0 w : World} {A : Option Addr} : Fresh w0 w A 0 := fun h => absurd h (Nat.lt_irrefl 0)
/-- a store into a box: the number's block is another one -/
theorem Fresh.far {w0 w : World} {A : Option Addr} {n : Nat} (h : Fresh w0 w A n) {k o : Nat} (hk : k < w0.heap.size) (v : Value) : Fresh w0 (w.setCell ⟨k, o, none⟩ v) A n := fun h0 => by
  obtain ⟨g, os, e, hg, hO, hn⟩ := h h0
  exact ⟨g, os, e, hg, hO.block (Below.heap_setCell _ _ _ _ (show g ≠ k by omega)), hn⟩
/-- a number handed back, in a block of its own -/
def RetNatF (w : World) (m : Nat) (e : Ending) (w' : World) : Prop :=
  ∃ A c, e = .returned (.slice A (dig m).length c) ∧ Rd w' w'.heap.size A (dig m).length c (dig m) ∧ Below w.heap.size w w' ∧ Fresh w w' A (dig m).length
theorem RetOwn.fresh_ {w : World} {m : Nat} {e : Ending} {w' : World} (h : RetOwn w m e w') : RetNatF w m e w' :=
  ⟨_, _, h.1, h.2.1.rd0 (Nat.le_refl _) h.2.2.2 h.2.1.lt, h.2.2.1, fun _ => ⟨_, _, rfl, Nat.le_refl _, h.2.1, Nat.le_refl _⟩⟩
theorem of1_f (w : World) : Calls Try.prog 68 #[.int .u64 1] w (RetNatF w 1) := by
  have hO : Own (w.alloc (Obj.cells #[Value.int IntKind.u32 1, Value.int IntKind.u32 0] 39)) w.heap.size [1, 0] := ⟨Limbs_cons (by omega) (Limbs_cons (by omega) Limbs_nil), ⟨_, heap_alloc_new w _, fun j hj => by
    match j, hj with
    | 0, _ => rfl
    | 1, _ => rfl⟩⟩
  have H := hO.rd0 (c := 2) (by simp) (by omega) (B := w.heap.size + 1) (by omega)
  have hv : Hid (val [1, 0] = 1) := hide rfl
  replace hO := hide hO
  go_enter Try.func68, Try.ntmps68
  go_wp2_with fail
  refine (trim_any _ _ _ _ _ _ H).mono ?_
  rintro e w' ⟨rfl, rfl⟩
  rw [hv.out]
  go_wp2
  go_ret
  have R := H.trim
  rw [hv.out] at R
  exact ⟨_, _, rfl, R.more (by simp), (Below.refl _ _).alloc (Nat.le_refl _) _, fun _ => ⟨_, _, rfl, Nat.le_refl _, hO.out, by rw [dig_one]; simp⟩⟩
theorem quo_f {w : World} {Bd : Nat} {A A' : Option Addr} {n c n' c' : Nat} {xs ys : List Nat} {m : Nat} (hx : Rd w Bd A n c xs) (hy : Rd w Bd A' n' c' ys) (hB : Bd ≤ w.heap.size) (hn : n + 1 ≤ 70368744177664) (h0 : val ys ≠ 0) (hm : val xs / val ys = m) :
    Calls Try.prog 94 #[.slice A n c, .slice A' n' c'] w (fun e w' => ∃ (A : Option Addr) (c : Nat) (A' : Option Addr) (c' r : Nat), e = .returned (.tuple #[.slice A (dig m).length c, .slice A' r c', .bool true]) ∧ Rd w' w'.heap.size A (dig m).length c (dig m) ∧ Below w.heap.size w w' ∧ Fresh w w' A (dig m).length) :=
  (divmod_any_f w Bd A A' n c n' c' xs ys hx hy hB hn h0).mono fun e w' h => by
    obtain ⟨A, c, A', c', rfl, R, _, hb, hF⟩ := h
    subst hm
    exact ⟨A, c, A', c', _, rfl, R, hb, hF⟩

/-- an integer handed back, its magnitude new since w0 -/
def RetIntF (w0 w : World) (z : Int) (e : Ending) (w' : World) : Prop :=
  ∃ A c, e = .returned (.agg #[.bool (zneg z), .slice A (dig (zmag z)).length c]) ∧ Rd w' w'.heap.size A (dig (zmag z)).length c (dig (zmag z)) ∧ Below w.heap.size w w' ∧ Fresh w0 w' A (dig (zmag z)).length
theorem RetIntF.mk {w0 w w' : World} {s : Bool} {A : Option Addr} {n c m : Nat} (h : Rd w' w'.heap.size A n c (dig m)) (hs : m = 0 → s = false) (hb : Below w.heap.size w w') (hF : Fresh w0 w' A n) :
    RetIntF w0 w (iv s m) (.returned (.agg #[.bool s, .slice A n c])) w' := by
  have hn := h.len
  subst hn
  have e : zneg (iv s m) = s := by
    by_cases h0 : m = 0
    · rw [h0, iv_zero, hs h0]; rfl
    · exact zneg_iv s h0
  refine ⟨A, c, by rw [e, zmag_iv], ?_, hb, by rw [zmag_iv]; exact hF⟩
  rw [zmag_iv]
  exact h
set_option maxHeartbeats 1000000 in
theorem signed_f {w0 : World} (w : World) (Bd : Nat) (s : Bool) (A : Option Addr) (n c m : Nat) (h : Rd w Bd A n c (dig m)) (hB : Bd ≤ w.heap.size) (hF : Fresh w0 w A n) :
    Calls Try.prog 88 #[.bool s, .slice A n c] w (RetIntF w0 w (iv s m)) := by
  have hl := h.len
  have H := hide h
  have hF' := hide hF
  clear h hF
  by_cases h0 : m = 0
  · subst h0
    rw [dig_zero] at hl
    obtain rfl : n = 0 := hl.symm
    have hp := hide (RetIntF.mk (w0 := w0) (w := w) (w' := w.alloc (.cells #[.bool false, .slice none 0 0] 25)) (s := false) (A := none) (n := 0) (c := 0) (m := 0) (by rw [dig_zero]; exact Rd.empty _ _ _ (by omega)) (fun _ => rfl) ((Below.refl _ _).alloc (Nat.le_refl _) _) Fresh.none_)
    rw [iv_zero] at hp ⊢
    clear hl hB
    go_enter Try.func88, Try.ntmps88
    go_wp2
    exact bodyPost_ret (v := .agg #[.bool false, .slice none 0 0]) (by simp [results, Try.results88, go_sem]) rfl hp.out
  · have hn : 0 < n := by have := mt dig_len_zero.1 h0; omega
    have hp := hide (RetIntF.mk (w0 := w0) (w := w) (w' := w.alloc (.cells #[.bool s, .slice A n c] 25)) (s := s) ((H.out.alloc hB _).more (Nat.le_trans hB (by simp))) (fun h => absurd h h0) ((Below.refl _ _).alloc (Nat.le_refl _) _) (hF'.out.keep ((Below.refl _ _).alloc (Nat.le_refl _) _)))
    clear hl hB h0
    go_enter Try.func88, Try.ntmps88
    go_wp2
    exact bodyPost_ret (v := .agg #[.bool s, .slice A n c]) (by simp [results, Try.results88, go_sem]) rfl hp.out

set_option maxHeartbeats 1000000 in
theorem imake_f (w : World) (Bd : Nat) (s : Bool) (A : Option Addr) (n c : Nat) (xs : List Nat) (h : Rd w Bd A n c xs) (hB : Bd ≤ w.heap.size) {z : Int} (hz : iv s (val xs) = z) :
    Calls Try.prog 95 #[.bool s, .slice A n c] w (RetIntF w w z) := by
  have H := hide h
  clear h
  replace hz := hide hz
  go_enter Try.func95, Try.ntmps95
  go_wp2_with fail
  refine (norm_any _ Bd A n c xs (H.out.alloc hB _) (by simp; omega)).mono ?_
  intro e w1 hr
  obtain ⟨A1, c1, rfl, R1, hb1, hF1⟩ := RetOwn.fresh_ hr
  replace R1 := hide R1
  have hF2 := hide (hF1.before (w0 := w) (by simp))
  replace hb1 := hide hb1
  clear hF1
  go_wp2_with fail
  refine (signed_f (w0 := w) w1 w1.heap.size s A1 _ c1 (val xs) R1.out (Nat.le_refl _) hF2.out).mono ?_
  rw [hz.out]
  rintro e w2 ⟨A2, c2, rfl, R2, hb2, hF3⟩
  obtain ⟨hc0, hc1, hf0, hf1, hsz⟩ := box_kept (w := w.alloc (.cells #[.bool false, .slice none 0 0] 25)) (heap_alloc_new w _) (hb1.out.trans (hb2.mono hb1.out.size))
  have hr' := hide (RetInt.box (z := z) (((Below.refl _ _).alloc (Nat.le_refl _) _).trans ((hb1.out.trans (hb2.mono hb1.out.size)).mono (by simp))) (Nat.le_refl w.heap.size) hc0 hc1 R2)
  replace hF3 := hide hF3
  replace hb2 := hide hb2
  replace R2 := hide R2
  clear hr hF2
  go_wp2
  refine bodyPost_ret (v := .agg #[.bool (zneg z), .slice A2 (dig (zmag z)).length c2]) (by simp [results, Try.results95, go_sem, hc0, hc1]) rfl ?_
  obtain ⟨A', c', he, hR, hb⟩ := hr'.out
  cases he
  refine ⟨A2, c2, rfl, hR, hb, fun h0 => ?_⟩
  obtain ⟨g, os, e, hg, hO, hn⟩ := hF3.out h0
  have hne : g ≠ w.heap.size := by
    rintro rfl
    have := (heap_alloc_new w (.cells #[.bool false, .slice none 0 0] 25))
    obtain ⟨cur, hcur, _⟩ := hO.blk
    have hk := ((hb1.out.trans (hb2.out.mono hb1.out.size)).block w.heap.size (by simp)).trans this
    rw [hk] at hcur
    simp at hcur
  exact ⟨g, os, e, hg, (hO.block (Below.heap_setCell _ _ _ _ hne)).block (Below.heap_setCell _ _ _ _ hne), hn⟩

end Go.Proofs.Ytieopcchchebgaa
