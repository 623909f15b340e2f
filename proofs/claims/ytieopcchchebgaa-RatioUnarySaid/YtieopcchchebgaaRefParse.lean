/-
  The reference's Parse.
-/
import Derived.Test.YtieopcchchebgaaRefSum
import Derived.Test.YtieopcchchebgaaNatText
import Derived.Deep.RegionHeld3
namespace Go.Proofs.Ytieopcchchebgaa
open Go.RowKit

theorem alloc_size (w : World) (o : Obj) : (w.alloc o).heap.size = w.heap.size + 1 := by cases w; simp [World.alloc]
theorem Rd.al {w : World} {A : Option Addr} {n c : Nat} {xs : List Nat} (h : Rd w w.heap.size A n c xs) (o : Obj) : Rd (w.alloc o) (w.alloc o).heap.size A n c xs :=
  (h.alloc (Nat.le_refl _) o).more (by rw [alloc_size]; omega)
theorem Rd.dr {w : World} {A : Option Addr} {n c : Nat} {xs : List Nat} (h : Rd w w.heap.size A n c xs) : Rd w.drew w.drew.heap.size A n c xs := ⟨h.len, h.limbs, h.cap, h.big, h.cbig, h.cells⟩
theorem Rd.bl {w w' : World} {A : Option Addr} {n c : Nat} {xs : List Nat} (h : Rd w w.heap.size A n c xs) (hb : Below w.heap.size w w') : Rd w' w'.heap.size A n c xs :=
  (h.below hb).more hb.size
def litU (q : Nat) : Obj := .cells #[.int .u32 (q : Int)] 39
theorem Rd.lit (w : World) (q : Nat) (hq : q < 4294967296) : Rd (w.alloc (litU q)) (w.alloc (litU q)).heap.size (some ⟨w.heap.size, 0, none⟩) 1 1 [q] := by
  refine ⟨rfl, Limbs_cons hq Limbs_nil, by omega, by omega, by omega, fun _ => ⟨_, rfl, by rw [alloc_size]; exact Nat.lt_succ_self _, fun j hj => ?_⟩⟩
  rw [litU, Addr.add_lit, cell_of_row _ w.heap.size (0 + j) _ _ (0, 0) (heap_alloc_new w _)]
  have : j = 0 := by omega
  subst this
  rfl
theorem Rd.lit2 (w : World) (o : Obj) (q : Nat) (hq : q < 4294967296) : Rd ((w.alloc o).alloc (litU q)) ((w.alloc o).alloc (litU q)).heap.size (some ⟨w.heap.size + 1, 0, none⟩) 1 1 [q] := by
  have := Rd.lit (w.alloc o) q hq
  rwa [alloc_size w o] at this
theorem Below.al {w X : World} (h : Below w.heap.size w X) (o : Obj) : Below w.heap.size w (X.alloc o) := h.alloc h.size o
theorem Below.dr {w X : World} (h : Below w.heap.size w X) : Below w.heap.size w X.drew := ⟨h.os, h.tape, h.output, h.size, h.block⟩
theorem Below.seq {w X Y : World} (h : Below w.heap.size w X) (k : Below X.heap.size X Y) : Below w.heap.size w Y := h.trans (k.mono h.size)
theorem val_one (q : Nat) : val [q] = q := by simp only [val_cons, val_nil]; omega

set_option maxHeartbeats 2000000 in
theorem rparse_ok (w : World) (s : ByteArray) (h : IsNum s) (hl : s.size ≤ 400) :
    Calls Try.prog 86 #[.string s] w (RetParse w (dvp s s.size)) := by
  obtain ⟨hd, h0, h48⟩ := h
  have HD := hide hd
  have hb0 := bt_get h0
  have hzz : ((s.size : Int) == 0) = false := by rw [beq_eq_false_iff_ne]; omega
  replace h48 := hide h48
  clear hd
  rcases (show s.size = 1 ∨ (1 < s.size ∧ bt s 0 ≠ 48) by have := h48.out; omega) with hc | ⟨hc, hc2⟩
  all_goals try (have hz3 : ((bt s 0 : Int) == 48) = false := by simp; omega)
  all_goals try clear hc2
  all_goals
    go_enter Try.func86, Try.ntmps86
    go_wp2
    go_loop [4] (fun i => ∃ k : Nat, k ≤ s.size ∧ i = .int .i64 k) (fun i => s.size - (intOf i).toNat)
    case atStart => exact ⟨0, Nat.zero_le _, rfl⟩
    case round =>
      obtain ⟨k, hk, rfl⟩ := hrel
      by_cases hlt : k < s.size
      · have hb := bt_get hlt
        have h1 := HD.out k hlt
        go_wp2
        go_round
        case rel => exact ⟨k + 1, by omega, by go_num⟩
        case measure => simp [intOf]; omega
      · go_wp2
        have hst := hide (Below.alloc (Below.refl w.heap.size w) (Nat.le_refl _) (Obj.cells #[] 39))
        generalize w.alloc (Obj.cells #[] 39) = w1 at *
        go_loopw [5, 6] (fun v i wr => ∃ (j : Nat) (A2 : Option Addr) (c2 m : Nat), j ≤ s.size ∧ i = .int .i64 j ∧ v = .slice A2 m c2 ∧ Hid (m = (dig (dvp s j)).length) ∧ Hid (Rd wr wr.heap.size A2 m c2 (dig (dvp s j))) ∧ Hid (Below w.heap.size w wr)) (fun _ i _ => s.size - (intOf i).toNat)
        case atStart => exact ⟨0, _, 0, 0, by omega, rfl, rfl, hide (by rw [show dvp s 0 = 0 from rfl, dig_zero]; rfl), hide (by rw [show dvp s 0 = 0 from rfl, dig_zero]; exact Rd.empty _ _ _ (by omega)), hst⟩
        case round =>
          obtain ⟨j, A2, c2, m, hj, rfl, rfl, hm, hR, hBl⟩ := hrel
          by_cases hjk : j < s.size
          · have hb := bt_get hjk
            obtain ⟨q, hq⟩ : ∃ q, q = bt s j - 48 := ⟨_, rfl⟩
            have hbj := HD.out j hjk
            have hq10 : q < 10 := by omega
            have hv := hide (dvp_succ s j)
            rw [← hq] at hv
            have hw1 : IntKind.u8.wrap ((bt s j : Int) - 48) = (q : Int) := by
              rw [show (bt s j : Int) - 48 = (q : Int) by omega]
              simp only [IntKind.wrap, IntKind.bits, IntKind.signed]
              simp
              omega
            have hw2 : IntKind.u32.wrap (q : Int) = (q : Int) := by
              simp only [IntKind.wrap, IntKind.bits, IntKind.signed]
              simp
              omega
            have hten := dvp_lt (s := s) (k := j) (fun i hi => HD.out i (by omega))
            have h10 : dvp s j * 10 < pw (j + 1) := by
              have h1 := ten_le_pw (j + 1)
              rw [Nat.pow_succ] at h1
              omega
            have hml3 : (dig (dvp s j * 10)).length ≤ 401 := by have := (dig_len_le _ _).2 h10; omega
            have hml : m ≤ 401 := by
              rw [hm.out]
              have : (dig (dvp s j)).length ≤ (dig (dvp s j * 10)).length := dig_len_mono (by omega)
              omega
            obtain ⟨m3, hm3⟩ : ∃ m3, m3 = (dig (dvp s j * 10)).length := ⟨_, rfl⟩
            rw [← hm3] at hml3
            replace hm3 := hide hm3
            clear hbj hq hten h10
            go_wp2_with fail
            go_region_with (first
              | (go_at_call 79; refine (rmul_any _ _ A2 _ m c2 1 1 (dig (dvp s j)) [10] ?_ ?_ (Nat.le_refl _) ?_).mono ?_; (focus (repeat (first | apply Rd.dr | apply Rd.al | exact hR.out))); (focus (repeat (first | apply Rd.dr | exact Rd.lit _ 10 (by omega) | exact Rd.lit2 _ _ 10 (by omega) | apply Rd.al))); (focus omega); rw [val_dig, val_one]; rintro e w3 ⟨A3, c3, rfl, hR3, hb3⟩; rw [← hm3.out] at hR3 ⊢; replace hR3 := hide hR3; have hT3 : Below w.heap.size w w3 := Below.seq (by repeat (first | apply Below.dr | apply Below.al | exact hBl.out)) hb3; replace hT3 := hide hT3; replace hb3 := hide hb3)
              | (go_at_call 105; refine (radd_any _ _ A3 _ m3 c3 1 1 (dig (dvp s j * 10)) [q] ?_ ?_ (Nat.le_refl _) ?_ ?_).mono ?_; (focus (repeat (first | apply Rd.dr | apply Rd.al | exact hR3.out))); (focus (repeat (first | apply Rd.dr | exact Rd.lit _ q (by omega) | exact Rd.lit2 _ _ q (by omega) | apply Rd.al | refine Rd.bl ?_ hb3.out))); (focus omega); (focus omega); rw [val_dig, val_one]; rintro e w5 ⟨A5, c5, rfl, hR5, hb5⟩; rw [← hv.out] at hR5 ⊢; replace hR5 := hide hR5; have hT5 : Below w.heap.size w w5 := Below.seq (by repeat (first | apply Below.dr | apply Below.al | exact hT3.out)) hb5; replace hT5 := hide hT5; clear hb5))
            all_goals
              clear hw1 hw2
              go_wp2
              go_roundw
              case rel => exact ⟨j + 1, A5, c5, _, by omega, by go_num, rfl, hide rfl, hide (by repeat (first | exact hR5.out | apply Rd.dr)), hide (by repeat (first | exact hT5.out | apply Below.dr))⟩
              case measure => simp [intOf]; omega
          · have hjk2 : j = s.size := by omega
            subst hjk2
            go_wp2
            go_ret2
            rw [hm.out] at hR ⊢
            exact ⟨_, _, rfl, hR.out, hBl.out⟩

end Go.Proofs.Ytieopcchchebgaa
