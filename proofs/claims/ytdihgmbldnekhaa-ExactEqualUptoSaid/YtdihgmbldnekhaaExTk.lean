/-
  exact: Trials, where the denominators' product is bounded.
-/
import Derived.Test.YtdihgmbldnekhaaExPD
namespace Go.Proofs.Ytdihgmbldnekhaa
open Go.RowKit

set_option maxHeartbeats 8000000 in
set_option maxRecDepth 100000 in
theorem trials_k {nf : Nat → Bool} {w : World} {Bd n c L K : Nat} {A : Option Addr} {X : Nat → Rc} {q : Nat → Rat} (hx : LQ nf w Bd L A n c X q) (gL : L ≤ 100000000) (hn1 : n ≤ 1048576) (hs : n ≤ 120 → dprod (ql n q) < pw K) (gK : 1 ≤ K ∧ K ≤ 130000000) (hB : Bd ≤ w.heap.size) {k : Int} {N : Nat} (hk : trK n q = (k, N)) :
    Calls Try.prog 13 #[.slice A n c] w (RetLE w K N (trl (ql n q)) k) := by
  have hcap := hx.cap
  have hcb := hx.cbig
  have HX := hide (hx.upto (Below.refl _ _) hB)
  have B := hide (Below.refl w.heap.size w)
  have hsh := hide hs
  have hkh := hide hk
  clear hx hB hs hk
  go_enter Try.func13, Try.ntmps13
  go_wp2
  go_loopw [15] (fun i wr => ∃ (j : Nat), j ≤ n ∧ i = .int .i64 j ∧ Hid (∀ i, i < j → shB (q i) = true) ∧ Hid (Below w.heap.size w wr)) (fun i _ => n - (intOf i).toNat)
  case atStart => exact ⟨0, Nat.zero_le _, rfl, hide fun i hi => by omega, B⟩
  case round =>
    obtain ⟨j, hj, rfl, hsb, B2⟩ := hrel
    clear B
    by_cases hjl : j < n
    · have hj64 : (j : Int) < (n : Int) := by omega
      have HW := HX.out.then_ B2.out
      obtain ⟨ad, hA, hab, E0, E1, E2⟩ := HW.all hjl
      subst hA
      replace E0 := E0 wr (Below.refl _ _)
      replace E1 := E1 wr (Below.refl _ _)
      replace E2 := E2 wr (Below.refl _ _)
      have RX := hide (HW.nums j hjl).1
      obtain ⟨sb, hsbj⟩ : ∃ b, shB (q j) = b := ⟨_, rfl⟩
      have hsbh := hide hsbj
      clear HW hab
      go_wp2_with fail
      have hal : Below wr.heap.size wr (wr.alloc (Obj.cells #[Value.bool (X j).s, Value.slice (X j).A (X j).n (X j).c, Value.slice (X j).B (X j).m (X j).d] 27)) := Below.al_ (Below.refl _ _) _
      refine (isprob_q (RX.out.then_ hal) (by omega) (Nat.le_refl _) hsbh.out).mono ?_
      rintro e w3 ⟨rfl, hb⟩
      have B3 := hide (Below.then_ (Below.then_ B2.out hal) hb)
      clear hb hal E0 E1 E2 RX
      cases sb with
      | false =>
        have hbad := hide (trK_bad hjl hsbj)
        rw [hkh.out] at hbad
        obtain ⟨rfl, rfl⟩ := Prod.mk.inj hbad.out
        clear hsbj hbad
        go_wp2
        go_ret2
        exact le_nil B3.out
      | true =>
        have hsb2 := hide (show ∀ i, i < j + 1 → shB (q i) = true from fun i hi => by
          by_cases e : i = j
          · rw [e]; exact hsbj
          · exact hsb.out i (by omega))
        clear hsbj
        go_wp2
        go_roundw
        case rel => exact ⟨j + 1, by omega, by go_num, hsb2, B3⟩
        case measure => simp [intOf]; omega
    · obtain rfl : j = n := by omega
      by_cases hlong : 121 ≤ j
      · have d0 : decide ((120 : Int) < (j : Int)) = true := by simp; omega
        have hl := hide (trK_long hsb.out hlong)
        rw [hkh.out] at hl
        obtain ⟨rfl, rfl⟩ := Prod.mk.inj hl.out
        clear hl hlong
        go_wp2
        go_ret2
        exact le_nil B2.out
      · have d0 : decide ((120 : Int) < (j : Int)) = false := by simp; omega
        have hl := hide (trK_ok hsb.out hlong)
        rw [hkh.out] at hl
        obtain ⟨rfl, rfl⟩ := Prod.mk.inj hl.out
        have h121 : j ≤ 120 := by omega
        clear hl hlong
        have hbx := Below.drw_ wr
        have hmk := run_make_nats j (by omega)
        go_wp2_with fail
        go_region_with (go_at_call 53; refine (of1_c _).mono ?_; rintro e w3 ⟨x3, rfl, R3, hb3⟩; replace R3 := hide R3)
        · skip
          have B3 := hide (Below.then_ B2.out (Below.then_ hbx hb3))
          have HL := hide ((ln_one R3.out).then_ (Below.al_ (Below.refl _ _) (.cells (madeCells (Value.slice none 0 0).cells j) 23)))
          have hO := hide (show OwnN ((w3.alloc (.cells #[.slice x3.A x3.n x3.c] 23)).alloc (.cells (madeCells (Value.slice none 0 0).cells j) 23)) w.heap.size (.slice (some ⟨w3.heap.size + 1, 0, none⟩) j j) j (fun _ => zeroNc) (fun _ => 0) by simpa using OwnN.made (w3.alloc (.cells #[.slice x3.A x3.n x3.c] 23)) (B := w.heap.size) (n := j) (by omega) (Below.al_ B3.out _).size)
          have B4 := hide (Below.al_ (Below.al_ B3.out (.cells #[.slice x3.A x3.n x3.c] 23)) (.cells (madeCells (Value.slice none 0 0).cells j) 23))
          clear B2 hbx hmk R3 hb3 B3
          have hst := hide (show ∀ k, k < 0 + 1 → (((fun _ : Nat => (1 : Nat)) k : Nat) : Rat) = trl (ql 0 q) k * ((dprod (ql 0 q) : Nat) : Rat) from fun k hk => by
            obtain rfl : k = 0 := by omega
            simp [ql, trl, dl0, dprod])
          go_wp2
          obtain ⟨g, hg⟩ : ∃ g, g = w3.heap.size + 1 := ⟨_, rfl⟩
          rw [← hg] at hO
          try rw [← hg] at HL
          simp only [← hg]
          have hga : w3.heap.size ≠ g := by omega
          clear hg
          go_loopw [6, 33] (fun pv iv wr => ∃ (i c6 h : Nat) (Z Y : Nat → Nc) (p y : Nat → Nat), i ≤ j ∧ h ≠ g ∧ pv = .slice (some ⟨h, 0, none⟩) (i + 1) c6 ∧ iv = .int .i64 i ∧ i + 1 ≤ c6 ∧ c6 ≤ 9223372036854775807 ∧ Hid (LN wr wr.heap.size (some ⟨h, 0, none⟩) (i + 1) c6 Z p) ∧ Hid (∀ k, k < i + 1 → (p k : Rat) = trl (ql i q) k * ((dprod (ql i q) : Nat) : Rat)) ∧ Hid (OwnN wr w.heap.size (.slice (some ⟨g, 0, none⟩) j j) j Y y) ∧ Hid (∀ k, k < i → y k = (q k).den) ∧ Hid (Below w.heap.size w wr)) (fun _ iv _ => j - (intOf iv).toNat)
          case atStart => exact ⟨0, 1, _, _, _, _, _, Nat.zero_le _, hga, rfl, rfl, by omega, by omega, HL, hst, hO, hide fun k hk => by omega, B4⟩
          case round =>
            obtain ⟨i, c6, h, Z, Y, p, y, hi, hhg, rfl, rfl, hc1, hc2, HP, hp, hY, hy, B5⟩ := hrel
            clear HL hO hst B4 hga
            by_cases hil : i < j
            · have hi64 : (i : Int) < (j : Int) := by omega
              have HW := HX.out.then_ B5.out
              obtain ⟨ad, hA, hab, E0, E1, E2⟩ := HW.all hil
              subst hA
              replace E0 := E0 wr (Below.refl _ _)
              replace E1 := E1 wr (Below.refl _ _)
              replace E2 := E2 wr (Below.refl _ _)
              have RX := hide (HW.nums i hil).1
              have hsi : 0 ≤ q i ∧ q i ≤ 1 := by simpa [shB] using hsb.out i hil
              have hsih := hide hsi
              clear HW hab hsi
              go_wp2_with fail
              have hal : Below wr.heap.size wr (wr.alloc (Obj.cells #[Value.bool (X i).s, Value.slice (X i).A (X i).n (X i).c, Value.slice (X i).B (X i).m (X i).d] 27)) := Below.al_ (Below.refl _ _) _
              refine (chances_q (RX.out.then_ hal) (by omega) (Nat.le_refl _) hsih.out.1 hsih.out.2 rfl rfl rfl).mono ?_
              rintro e w5 ⟨x5, y5, z5, rfl, R5, R6, R7, hb⟩
              have hb2 := Below.then_ hal hb
              replace HP := hide (HP.out.then_ hb2)
              replace hY := hide (hY.out.then_ hb2)
              replace B5 := hide (Below.then_ B5.out hb2)
              replace R5 := hide R5
              replace R6 := hide R6
              replace R7 := hide R7
              clear hb hb2 hal E0 E1 E2 RX
              go_wp2_with fail
              have hDj := hide (show dprod (ql j q) < pw K from hsh.out (by omega))
              have hDi := hide (show dprod (ql (i + 1) q) = dprod (ql i q) * (q i).den by rw [ql_succ, dprod_snoc])
              have hdn := hide (show (q i).den < pw K from Nat.lt_of_le_of_lt (Nat.le_trans (by rw [hDi.out]; exact Nat.le_mul_of_pos_left _ (dprod_pos _)) (dprod_mono (i := i + 1) (j := j) (by omega))) hDj.out)
              have hpK := hide (show ∀ k, k < i + 1 → p k < pw K from fun k hk => Nat.lt_of_le_of_lt (Nat.le_trans (part_le (ql_mem fun m hm => hsb.out m (by omega)) (hp.out k hk)) (dprod_mono (by omega))) hDj.out)
              have hcr := hide (chance_rat hsih.out.1 hsih.out.2)
              have htK := hide (show ∀ k, k < 2 → (fun m => if m = 0 then (q i).den - zmag (q i).num else zmag (q i).num) k < pw K from fun k _ => by
                have := hdn.out
                have := share_num hsih.out.1 hsih.out.2
                dsimp only
                split <;> omega)
              have hnew := hide (show ∀ k, k < (i + 1) + 1 → ((cvn (i + 1) 2 p (fun m => if m = 0 then (q i).den - zmag (q i).num else zmag (q i).num) k : Nat) : Rat) = trl (ql (i + 1) q) k * ((dprod (ql (i + 1) q) : Nat) : Rat) from fun k _ => by
                rw [hDi.out, cvn_rat (W := (q i).den) (q := two (1 - q i) (q i)) hp.out (fun m hm => ?_) k, trl_next (fun _ _ => rfl)]
                rcases (by omega : m = 0 ∨ m = 1) with rfl | rfl
                · exact hcr.out.2
                · exact hcr.out.1)
              have HW2 := hide (ln_two (R6.out) (R5.out))
              have hal : Below w5.heap.size w5 (w5.alloc (.cells #[.slice y5.A y5.n y5.c, .slice x5.A x5.n x5.c] 23)) := Below.al_ (Below.refl _ _) _
              refine (convolved_n (N := i + 1 + 1) (Ka := K) (Kb := K) (HP.out.then_ hal) HW2.out (Nat.le_refl _) (by omega) (by omega) (by omega) hpK.out htK.out (by omega)).mono ?_
              rintro e w6 ⟨h6, c7, Z6, rfl, H6o, hb⟩
              have hb2 := Below.then_ hal hb
              have hY6 := hY.out.then_ hb2
              have hh6 : h6 ≠ g := (Nat.ne_of_lt (Nat.lt_of_lt_of_le (Nat.lt_of_lt_of_le hY.out.block.2 hal.size) H6o.block.1)).symm
              have H6 := H6o.read
              obtain ⟨G0, G1, G2⟩ := hY6.all hil
              replace G0 := G0 w6 (Below.refl _ _)
              replace G1 := G1 i w6 (Below.refl _ _)
              replace G2 := G2 w6 (Below.refl _ _)
              have hc61 := H6.cap
              have hc62 := H6.cbig
              have hS := hide (hY6.set hil (R7.out.then_ hb2))
              have hgr := setN_grown w6 g i z5
              have B6 := hide (hY6.below hgr (Below.then_ B5.out hb2) (Below.then_ B5.out hb2).size)
              have HP6 := hide (H6.beside (row := some g) hY6.noU hgr (fun e => hh6 (Option.some.inj e)))
              have hy2 := hide (show ∀ k, k < i + 1 → upd y i (q i).den k = (q k).den from fun k hk => by
                by_cases e : k = i
                · rw [e, upd_same]
                · rw [upd_ne e]; exact hy.out k (by omega))
              clear hb hb2 hal hgr hY6 H6 H6o HW2 R5 R6 R7 HP hY B5 hp hy
              go_wp2
              go_roundw
              case rel => exact ⟨i + 1, c7, h6, Z6, _, _, _, by omega, hh6, by go_num, by go_num, by omega, by omega, HP6, hnew, hS, hy2, B6⟩
              case measure => simp [intOf]; omega
            · obtain rfl : i = j := by omega
              have hDj := hide (show dprod (ql i q) < pw K from hsh.out (by omega))
              have hpK := hide (show ∀ k, k < i + 1 → p k < pw K from fun k hk => Nat.lt_of_le_of_lt (part_le (ql_mem fun m hm => hsb.out m (by omega)) (hp.out k hk)) hDj.out)
              have hfy := hide (OwnN.congr (r := fun k => (q k).den) hY.out hy.out).read
              have hval := hide (show ∀ k, k < i + 1 → Rat.divInt (p k : Int) (np (fun k => (q k).den) i : Int) = trl (ql i q) k from fun k hk => by
                rw [np_dens]
                exact divInt_of (Nat.pos_iff_ne_zero.1 (dprod_pos _)) (hp.out k hk))
              go_wp2_with fail
              refine (lowest_q (K := K) HP.out hfy.out (Nat.le_refl _) (by omega) (by omega) hpK.out (fun k _ => (q k).den_nz) (by rw [np_dens]; exact hDj.out) (by omega)).mono ?_
              rintro e w6 ⟨A6, c7, Z6, y6, rfl, H6, hy6, hb⟩
              have B6 := hide (Below.then_ B5.out hb)
              replace H6 := hide H6
              replace hy6 := hide hy6
              clear hb
              go_wp2
              go_ret2
              exact ⟨_, _, Z6, y6, rfl, H6.out, fun k hk => (hy6.out k hk).trans (hval.out k hk), B6.out⟩
        · skip
          have B3 := hide (Below.then_ B2.out (Below.then_ hbx hb3))
          have HL := hide (show LN ((w3.alloc (.cells (madeCells (Value.slice none 0 0).cells j) 23)).alloc (.cells #[.slice x3.A x3.n x3.c] 23)) ((w3.alloc (.cells (madeCells (Value.slice none 0 0).cells j) 23)).alloc (.cells #[.slice x3.A x3.n x3.c] 23)).heap.size (some ⟨w3.heap.size + 1, 0, none⟩) 1 1 (fun _ => x3) (fun _ => 1) by simpa using ln_one (R3.out.then_ (Below.al_ (Below.refl _ _) (.cells (madeCells (Value.slice none 0 0).cells j) 23))))
          have hO := hide ((OwnN.made w3 (B := w.heap.size) (n := j) (by omega) B3.out.size).then_ (Below.al_ (Below.refl _ _) (.cells #[.slice x3.A x3.n x3.c] 23)))
          have B4 := hide (Below.al_ (Below.al_ B3.out (.cells (madeCells (Value.slice none 0 0).cells j) 23)) (.cells #[.slice x3.A x3.n x3.c] 23))
          clear B2 hbx hmk R3 hb3 B3
          have hst := hide (show ∀ k, k < 0 + 1 → (((fun _ : Nat => (1 : Nat)) k : Nat) : Rat) = trl (ql 0 q) k * ((dprod (ql 0 q) : Nat) : Rat) from fun k hk => by
            obtain rfl : k = 0 := by omega
            simp [ql, trl, dl0, dprod])
          go_wp2
          obtain ⟨g, hg⟩ : ∃ g, g = w3.heap.size := ⟨_, rfl⟩
          rw [← hg] at hO
          try rw [← hg] at HL
          simp only [← hg]
          have hga : g + 1 ≠ g := by omega
          clear hg
          go_loopw [6, 33] (fun pv iv wr => ∃ (i c6 h : Nat) (Z Y : Nat → Nc) (p y : Nat → Nat), i ≤ j ∧ h ≠ g ∧ pv = .slice (some ⟨h, 0, none⟩) (i + 1) c6 ∧ iv = .int .i64 i ∧ i + 1 ≤ c6 ∧ c6 ≤ 9223372036854775807 ∧ Hid (LN wr wr.heap.size (some ⟨h, 0, none⟩) (i + 1) c6 Z p) ∧ Hid (∀ k, k < i + 1 → (p k : Rat) = trl (ql i q) k * ((dprod (ql i q) : Nat) : Rat)) ∧ Hid (OwnN wr w.heap.size (.slice (some ⟨g, 0, none⟩) j j) j Y y) ∧ Hid (∀ k, k < i → y k = (q k).den) ∧ Hid (Below w.heap.size w wr)) (fun _ iv _ => j - (intOf iv).toNat)
          case atStart => exact ⟨0, 1, _, _, _, _, _, Nat.zero_le _, hga, rfl, rfl, by omega, by omega, HL, hst, hO, hide fun k hk => by omega, B4⟩
          case round =>
            obtain ⟨i, c6, h, Z, Y, p, y, hi, hhg, rfl, rfl, hc1, hc2, HP, hp, hY, hy, B5⟩ := hrel
            clear HL hO hst B4 hga
            by_cases hil : i < j
            · have hi64 : (i : Int) < (j : Int) := by omega
              have HW := HX.out.then_ B5.out
              obtain ⟨ad, hA, hab, E0, E1, E2⟩ := HW.all hil
              subst hA
              replace E0 := E0 wr (Below.refl _ _)
              replace E1 := E1 wr (Below.refl _ _)
              replace E2 := E2 wr (Below.refl _ _)
              have RX := hide (HW.nums i hil).1
              have hsi : 0 ≤ q i ∧ q i ≤ 1 := by simpa [shB] using hsb.out i hil
              have hsih := hide hsi
              clear HW hab hsi
              go_wp2_with fail
              have hal : Below wr.heap.size wr (wr.alloc (Obj.cells #[Value.bool (X i).s, Value.slice (X i).A (X i).n (X i).c, Value.slice (X i).B (X i).m (X i).d] 27)) := Below.al_ (Below.refl _ _) _
              refine (chances_q (RX.out.then_ hal) (by omega) (Nat.le_refl _) hsih.out.1 hsih.out.2 rfl rfl rfl).mono ?_
              rintro e w5 ⟨x5, y5, z5, rfl, R5, R6, R7, hb⟩
              have hb2 := Below.then_ hal hb
              replace HP := hide (HP.out.then_ hb2)
              replace hY := hide (hY.out.then_ hb2)
              replace B5 := hide (Below.then_ B5.out hb2)
              replace R5 := hide R5
              replace R6 := hide R6
              replace R7 := hide R7
              clear hb hb2 hal E0 E1 E2 RX
              go_wp2_with fail
              have hDj := hide (show dprod (ql j q) < pw K from hsh.out (by omega))
              have hDi := hide (show dprod (ql (i + 1) q) = dprod (ql i q) * (q i).den by rw [ql_succ, dprod_snoc])
              have hdn := hide (show (q i).den < pw K from Nat.lt_of_le_of_lt (Nat.le_trans (by rw [hDi.out]; exact Nat.le_mul_of_pos_left _ (dprod_pos _)) (dprod_mono (i := i + 1) (j := j) (by omega))) hDj.out)
              have hpK := hide (show ∀ k, k < i + 1 → p k < pw K from fun k hk => Nat.lt_of_le_of_lt (Nat.le_trans (part_le (ql_mem fun m hm => hsb.out m (by omega)) (hp.out k hk)) (dprod_mono (by omega))) hDj.out)
              have hcr := hide (chance_rat hsih.out.1 hsih.out.2)
              have htK := hide (show ∀ k, k < 2 → (fun m => if m = 0 then (q i).den - zmag (q i).num else zmag (q i).num) k < pw K from fun k _ => by
                have := hdn.out
                have := share_num hsih.out.1 hsih.out.2
                dsimp only
                split <;> omega)
              have hnew := hide (show ∀ k, k < (i + 1) + 1 → ((cvn (i + 1) 2 p (fun m => if m = 0 then (q i).den - zmag (q i).num else zmag (q i).num) k : Nat) : Rat) = trl (ql (i + 1) q) k * ((dprod (ql (i + 1) q) : Nat) : Rat) from fun k _ => by
                rw [hDi.out, cvn_rat (W := (q i).den) (q := two (1 - q i) (q i)) hp.out (fun m hm => ?_) k, trl_next (fun _ _ => rfl)]
                rcases (by omega : m = 0 ∨ m = 1) with rfl | rfl
                · exact hcr.out.2
                · exact hcr.out.1)
              have HW2 := hide (ln_two (R6.out) (R5.out))
              have hal : Below w5.heap.size w5 (w5.alloc (.cells #[.slice y5.A y5.n y5.c, .slice x5.A x5.n x5.c] 23)) := Below.al_ (Below.refl _ _) _
              refine (convolved_n (N := i + 1 + 1) (Ka := K) (Kb := K) (HP.out.then_ hal) HW2.out (Nat.le_refl _) (by omega) (by omega) (by omega) hpK.out htK.out (by omega)).mono ?_
              rintro e w6 ⟨h6, c7, Z6, rfl, H6o, hb⟩
              have hb2 := Below.then_ hal hb
              have hY6 := hY.out.then_ hb2
              have hh6 : h6 ≠ g := (Nat.ne_of_lt (Nat.lt_of_lt_of_le (Nat.lt_of_lt_of_le hY.out.block.2 hal.size) H6o.block.1)).symm
              have H6 := H6o.read
              obtain ⟨G0, G1, G2⟩ := hY6.all hil
              replace G0 := G0 w6 (Below.refl _ _)
              replace G1 := G1 i w6 (Below.refl _ _)
              replace G2 := G2 w6 (Below.refl _ _)
              have hc61 := H6.cap
              have hc62 := H6.cbig
              have hS := hide (hY6.set hil (R7.out.then_ hb2))
              have hgr := setN_grown w6 g i z5
              have B6 := hide (hY6.below hgr (Below.then_ B5.out hb2) (Below.then_ B5.out hb2).size)
              have HP6 := hide (H6.beside (row := some g) hY6.noU hgr (fun e => hh6 (Option.some.inj e)))
              have hy2 := hide (show ∀ k, k < i + 1 → upd y i (q i).den k = (q k).den from fun k hk => by
                by_cases e : k = i
                · rw [e, upd_same]
                · rw [upd_ne e]; exact hy.out k (by omega))
              clear hb hb2 hal hgr hY6 H6 H6o HW2 R5 R6 R7 HP hY B5 hp hy
              go_wp2
              go_roundw
              case rel => exact ⟨i + 1, c7, h6, Z6, _, _, _, by omega, hh6, by go_num, by go_num, by omega, by omega, HP6, hnew, hS, hy2, B6⟩
              case measure => simp [intOf]; omega
            · obtain rfl : i = j := by omega
              have hDj := hide (show dprod (ql i q) < pw K from hsh.out (by omega))
              have hpK := hide (show ∀ k, k < i + 1 → p k < pw K from fun k hk => Nat.lt_of_le_of_lt (part_le (ql_mem fun m hm => hsb.out m (by omega)) (hp.out k hk)) hDj.out)
              have hfy := hide (OwnN.congr (r := fun k => (q k).den) hY.out hy.out).read
              have hval := hide (show ∀ k, k < i + 1 → Rat.divInt (p k : Int) (np (fun k => (q k).den) i : Int) = trl (ql i q) k from fun k hk => by
                rw [np_dens]
                exact divInt_of (Nat.pos_iff_ne_zero.1 (dprod_pos _)) (hp.out k hk))
              go_wp2_with fail
              refine (lowest_q (K := K) HP.out hfy.out (Nat.le_refl _) (by omega) (by omega) hpK.out (fun k _ => (q k).den_nz) (by rw [np_dens]; exact hDj.out) (by omega)).mono ?_
              rintro e w6 ⟨A6, c7, Z6, y6, rfl, H6, hy6, hb⟩
              have B6 := hide (Below.then_ B5.out hb)
              replace H6 := hide H6
              replace hy6 := hide hy6
              clear hb
              go_wp2
              go_ret2
              exact ⟨_, _, Z6, y6, rfl, H6.out, fun k hk => (hy6.out k hk).trans (hval.out k hk), B6.out⟩
        · skip
          have hO0 := hide (OwnN.made wr (B := w.heap.size) (n := j) (by omega) B2.out.size)
          have B3 := hide (Below.then_ (Below.al_ B2.out (.cells (madeCells (Value.slice none 0 0).cells j) 23)) (Below.then_ (Below.drw_ _) hb3))
          have HL := hide (ln_one R3.out)
          have hO := hide ((hO0.out.then_ (Below.then_ (Below.drw_ _) hb3)).then_ (Below.al_ (Below.refl _ _) (.cells #[.slice x3.A x3.n x3.c] 23)))
          have B4 := hide (Below.al_ B3.out (.cells #[.slice x3.A x3.n x3.c] 23))
          have hszw := hide (show wr.heap.size < w3.heap.size from by have := hb3.size; simp at this; omega)
          clear hO0
          clear B2 hbx hmk R3 hb3 B3
          have hst := hide (show ∀ k, k < 0 + 1 → (((fun _ : Nat => (1 : Nat)) k : Nat) : Rat) = trl (ql 0 q) k * ((dprod (ql 0 q) : Nat) : Rat) from fun k hk => by
            obtain rfl : k = 0 := by omega
            simp [ql, trl, dl0, dprod])
          go_wp2
          obtain ⟨g, hg⟩ : ∃ g, g = wr.heap.size := ⟨_, rfl⟩
          rw [← hg] at hO
          try rw [← hg] at HL
          simp only [← hg]
          have hga : w3.heap.size ≠ g := by have := hszw.out; omega
          clear hg
          go_loopw [6, 33] (fun pv iv wr => ∃ (i c6 h : Nat) (Z Y : Nat → Nc) (p y : Nat → Nat), i ≤ j ∧ h ≠ g ∧ pv = .slice (some ⟨h, 0, none⟩) (i + 1) c6 ∧ iv = .int .i64 i ∧ i + 1 ≤ c6 ∧ c6 ≤ 9223372036854775807 ∧ Hid (LN wr wr.heap.size (some ⟨h, 0, none⟩) (i + 1) c6 Z p) ∧ Hid (∀ k, k < i + 1 → (p k : Rat) = trl (ql i q) k * ((dprod (ql i q) : Nat) : Rat)) ∧ Hid (OwnN wr w.heap.size (.slice (some ⟨g, 0, none⟩) j j) j Y y) ∧ Hid (∀ k, k < i → y k = (q k).den) ∧ Hid (Below w.heap.size w wr)) (fun _ iv _ => j - (intOf iv).toNat)
          case atStart => exact ⟨0, 1, _, _, _, _, _, Nat.zero_le _, hga, rfl, rfl, by omega, by omega, HL, hst, hO, hide fun k hk => by omega, B4⟩
          case round =>
            obtain ⟨i, c6, h, Z, Y, p, y, hi, hhg, rfl, rfl, hc1, hc2, HP, hp, hY, hy, B5⟩ := hrel
            clear HL hO hst B4 hga
            by_cases hil : i < j
            · have hi64 : (i : Int) < (j : Int) := by omega
              have HW := HX.out.then_ B5.out
              obtain ⟨ad, hA, hab, E0, E1, E2⟩ := HW.all hil
              subst hA
              replace E0 := E0 wr (Below.refl _ _)
              replace E1 := E1 wr (Below.refl _ _)
              replace E2 := E2 wr (Below.refl _ _)
              have RX := hide (HW.nums i hil).1
              have hsi : 0 ≤ q i ∧ q i ≤ 1 := by simpa [shB] using hsb.out i hil
              have hsih := hide hsi
              clear HW hab hsi
              go_wp2_with fail
              have hal : Below wr.heap.size wr (wr.alloc (Obj.cells #[Value.bool (X i).s, Value.slice (X i).A (X i).n (X i).c, Value.slice (X i).B (X i).m (X i).d] 27)) := Below.al_ (Below.refl _ _) _
              refine (chances_q (RX.out.then_ hal) (by omega) (Nat.le_refl _) hsih.out.1 hsih.out.2 rfl rfl rfl).mono ?_
              rintro e w5 ⟨x5, y5, z5, rfl, R5, R6, R7, hb⟩
              have hb2 := Below.then_ hal hb
              replace HP := hide (HP.out.then_ hb2)
              replace hY := hide (hY.out.then_ hb2)
              replace B5 := hide (Below.then_ B5.out hb2)
              replace R5 := hide R5
              replace R6 := hide R6
              replace R7 := hide R7
              clear hb hb2 hal E0 E1 E2 RX
              go_wp2_with fail
              have hDj := hide (show dprod (ql j q) < pw K from hsh.out (by omega))
              have hDi := hide (show dprod (ql (i + 1) q) = dprod (ql i q) * (q i).den by rw [ql_succ, dprod_snoc])
              have hdn := hide (show (q i).den < pw K from Nat.lt_of_le_of_lt (Nat.le_trans (by rw [hDi.out]; exact Nat.le_mul_of_pos_left _ (dprod_pos _)) (dprod_mono (i := i + 1) (j := j) (by omega))) hDj.out)
              have hpK := hide (show ∀ k, k < i + 1 → p k < pw K from fun k hk => Nat.lt_of_le_of_lt (Nat.le_trans (part_le (ql_mem fun m hm => hsb.out m (by omega)) (hp.out k hk)) (dprod_mono (by omega))) hDj.out)
              have hcr := hide (chance_rat hsih.out.1 hsih.out.2)
              have htK := hide (show ∀ k, k < 2 → (fun m => if m = 0 then (q i).den - zmag (q i).num else zmag (q i).num) k < pw K from fun k _ => by
                have := hdn.out
                have := share_num hsih.out.1 hsih.out.2
                dsimp only
                split <;> omega)
              have hnew := hide (show ∀ k, k < (i + 1) + 1 → ((cvn (i + 1) 2 p (fun m => if m = 0 then (q i).den - zmag (q i).num else zmag (q i).num) k : Nat) : Rat) = trl (ql (i + 1) q) k * ((dprod (ql (i + 1) q) : Nat) : Rat) from fun k _ => by
                rw [hDi.out, cvn_rat (W := (q i).den) (q := two (1 - q i) (q i)) hp.out (fun m hm => ?_) k, trl_next (fun _ _ => rfl)]
                rcases (by omega : m = 0 ∨ m = 1) with rfl | rfl
                · exact hcr.out.2
                · exact hcr.out.1)
              have HW2 := hide (ln_two (R6.out) (R5.out))
              have hal : Below w5.heap.size w5 (w5.alloc (.cells #[.slice y5.A y5.n y5.c, .slice x5.A x5.n x5.c] 23)) := Below.al_ (Below.refl _ _) _
              refine (convolved_n (N := i + 1 + 1) (Ka := K) (Kb := K) (HP.out.then_ hal) HW2.out (Nat.le_refl _) (by omega) (by omega) (by omega) hpK.out htK.out (by omega)).mono ?_
              rintro e w6 ⟨h6, c7, Z6, rfl, H6o, hb⟩
              have hb2 := Below.then_ hal hb
              have hY6 := hY.out.then_ hb2
              have hh6 : h6 ≠ g := (Nat.ne_of_lt (Nat.lt_of_lt_of_le (Nat.lt_of_lt_of_le hY.out.block.2 hal.size) H6o.block.1)).symm
              have H6 := H6o.read
              obtain ⟨G0, G1, G2⟩ := hY6.all hil
              replace G0 := G0 w6 (Below.refl _ _)
              replace G1 := G1 i w6 (Below.refl _ _)
              replace G2 := G2 w6 (Below.refl _ _)
              have hc61 := H6.cap
              have hc62 := H6.cbig
              have hS := hide (hY6.set hil (R7.out.then_ hb2))
              have hgr := setN_grown w6 g i z5
              have B6 := hide (hY6.below hgr (Below.then_ B5.out hb2) (Below.then_ B5.out hb2).size)
              have HP6 := hide (H6.beside (row := some g) hY6.noU hgr (fun e => hh6 (Option.some.inj e)))
              have hy2 := hide (show ∀ k, k < i + 1 → upd y i (q i).den k = (q k).den from fun k hk => by
                by_cases e : k = i
                · rw [e, upd_same]
                · rw [upd_ne e]; exact hy.out k (by omega))
              clear hb hb2 hal hgr hY6 H6 H6o HW2 R5 R6 R7 HP hY B5 hp hy
              go_wp2
              go_roundw
              case rel => exact ⟨i + 1, c7, h6, Z6, _, _, _, by omega, hh6, by go_num, by go_num, by omega, by omega, HP6, hnew, hS, hy2, B6⟩
              case measure => simp [intOf]; omega
            · obtain rfl : i = j := by omega
              have hDj := hide (show dprod (ql i q) < pw K from hsh.out (by omega))
              have hpK := hide (show ∀ k, k < i + 1 → p k < pw K from fun k hk => Nat.lt_of_le_of_lt (part_le (ql_mem fun m hm => hsb.out m (by omega)) (hp.out k hk)) hDj.out)
              have hfy := hide (OwnN.congr (r := fun k => (q k).den) hY.out hy.out).read
              have hval := hide (show ∀ k, k < i + 1 → Rat.divInt (p k : Int) (np (fun k => (q k).den) i : Int) = trl (ql i q) k from fun k hk => by
                rw [np_dens]
                exact divInt_of (Nat.pos_iff_ne_zero.1 (dprod_pos _)) (hp.out k hk))
              go_wp2_with fail
              refine (lowest_q (K := K) HP.out hfy.out (Nat.le_refl _) (by omega) (by omega) hpK.out (fun k _ => (q k).den_nz) (by rw [np_dens]; exact hDj.out) (by omega)).mono ?_
              rintro e w6 ⟨A6, c7, Z6, y6, rfl, H6, hy6, hb⟩
              have B6 := hide (Below.then_ B5.out hb)
              replace H6 := hide H6
              replace hy6 := hide hy6
              clear hb
              go_wp2
              go_ret2
              exact ⟨_, _, Z6, y6, rfl, H6.out, fun k hk => (hy6.out k hk).trans (hval.out k hk), B6.out⟩
end Go.Proofs.Ytdihgmbldnekhaa
