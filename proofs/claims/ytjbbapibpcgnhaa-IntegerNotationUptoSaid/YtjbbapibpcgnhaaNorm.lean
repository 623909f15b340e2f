/-
  Norm and Of.
-/
import Derived.Test.YtjbbapibpcgnhaaTrim
namespace Go.Proofs.Ytjbbapibpcgnhaa
open Go.RowKit

set_option maxHeartbeats 400000 in
theorem of_any (w : World) (n : Nat) (hn : n < 18446744073709551616) : Calls Try.prog 43 #[.int .u64 (n : Int)] w (RetNat w n) := by
  go_enter Try.func43, Try.ntmps43
  have hl : (dig n).length ≤ 2 := (dig_len_le _ _).2 (by simp only [pw]; omega)
  have hv : Hid (val [n % 4294967296, n / 4294967296] = n) := hide (by simp only [val_cons, val_nil]; omega)
  have H : ∀ W : World, Rd (W.alloc (Obj.cells #[Value.int IntKind.u32 (↑n % 4294967296), Value.int IntKind.u32 (↑n / 4294967296)] 51)) (W.heap.size + 1) (some ⟨W.heap.size, 0, none⟩) 2 2 [n % 4294967296, n / 4294967296] := by
    intro W
    refine ⟨rfl, Limbs_cons (by omega) (Limbs_cons (by omega) Limbs_nil), by omega, by omega, by omega, fun _ => ⟨_, rfl, by simp, fun j hj => ?_⟩⟩
    rw [Addr.add_lit]
    have e := cell_of_row (W.alloc (Obj.cells #[Value.int IntKind.u32 (↑n % 4294967296), Value.int IntKind.u32 (↑n / 4294967296)] 51)) W.heap.size (0 + j) _ _ (0, 0) (heap_alloc_new W _)
    rw [e]
    match j, hj with
    | 0, _ => rfl
    | 1, _ => rfl
  go_wp2_with fail
  refine (trim_any _ _ _ _ _ _ (H w)).mono ?_
  rintro e w' ⟨rfl, rfl⟩
  rw [hv.out]
  go_wp2
  go_ret
  have R := (H w).trim
  rw [hv.out] at R
  exact ⟨_, _, rfl, R.more (by simp), (Below.refl _ _).alloc (Nat.le_refl _) _⟩

set_option maxHeartbeats 400000 in
theorem norm_any (w : World) (Bd : Nat) (A : Option Addr) (n c : Nat) (xs : List Nat) (h : Rd w Bd A n c xs) (hB : Bd ≤ w.heap.size) :
    Calls Try.prog 45 #[.slice A n c] w (RetOwn w (val xs)) := by
  have hcap := h.cap
  have hbig := h.big
  have hl : (dig (val xs)).length ≤ n := by rw [← h.len]; exact dig_len_val h.limbs
  have HT := hide h.trim
  have H := hide h
  clear h
  go_enter Try.func45, Try.ntmps45
  go_wp2_with (first
    | (go_at_call 63; refine (trim_any _ _ _ _ _ _ H.out).mono ?_; rintro e w' ⟨rfl, rfl⟩)
    | (at_make; refine wpList_make_nat _ rfl _ _ rfl _ _ _ _ (dig (val xs)).length rfl rfl (by omega) (by omega) (by omega) ?_; intro w1 hown hb hlt)
    | (with_reducible refine wpList_copy_nat rfl (.tmp 9) (.tmp 10) rfl _ _ _ _ _ _ rfl rfl _ (dig (val xs)) _ hown (by simp) (HT.out.below (hb.mono hB)) (Nat.le_refl _) _ _ hb (Nat.le_refl _) ?_; intro w2 hown2 hb2))
  go_ret
  rw [show (dig (val xs)) ++ List.drop (dig (val xs)).length (List.replicate (dig (val xs)).length 0) = dig (val xs) by simp] at hown2
  exact ⟨rfl, hown2, hb2, by omega⟩

end Go.Proofs.Ytjbbapibpcgnhaa
