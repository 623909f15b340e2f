/-
  ExCv, ExTr, ExHy, ExBi.
-/
import Derived.Test.YtdihgmbldnekhaaExPC
import Derived.Test.YtdihgmbldnekhaaExPB
import Derived.Test.YtdihgmbldnekhaaExPA
import Derived.Test.YtdihgmbldnekhaaCombX
import Derived.Deep.RegionWith
namespace Go.Proofs.Ytdihgmbldnekhaa
section
open Go.RowKit

theorem np_two (a b : Nat) : np (fun i => if i = 0 then a else b) 2 = a * b := by simp [np]
set_option maxHeartbeats 8000000 in
set_option maxRecDepth 100000 in
theorem convolve_p {mf nf : Nat → Bool} {w : World} {Bd na nb ca cb L K : Nat} {A A' : Option Addr} {X Y : Nat → Rc} {a b : Nat → Rat} (hx : LQ mf w Bd L A na ca X a) (hy : LQ nf w Bd L A' nb cb Y b) (gL : L ≤ 400000000) (hB : Bd ≤ w.heap.size)
    (hc : CmH w Bd na X a K) (hd : CmH w Bd nb Y b K) (hK : K ≤ 130000000) {ra rb : Bool} (hra : vlB na a = ra) (hrb : vlB nb b = rb) {k : Int} {n : Nat} (hk : cvK ra rb na nb = (k, n)) :
    Calls Try.prog 42 #[.slice A na ca, .slice A' nb cb] w (RetLE w (K + K + 1) n (cv (ex na a) (ex nb b)) k) := by
  have hK4 : K ≤ 400000000 := by omega
  have hcap := hx.cap
  have hcb := hx.cbig
  have hcap' := hy.cap
  have hcb' := hy.cbig
  have HX := hide (hx.upto (Below.refl _ _) hB)
  have HY := hide (hy.upto (Below.refl _ _) hB)
  have HC := hide (hc.upto (Below.refl _ _) hB)
  have HD := hide (hd.upto (Below.refl _ _) hB)
  have B := hide (Below.refl w.heap.size w)
  have hrah := hide hra
  have hrbh := hide hrb
  clear hx hy hc hd hB
  by_cases hboth : ra = true ∧ rb = true
  · obtain ⟨rfl, rfl⟩ := hboth
    have h1 := (vl_len hra).1
    have h2 := (vl_len hrb).1
    have h11 := h1.1
    have h21 := h2.1
    clear hra hrb
    go_enter Try.func42, Try.ntmps42
    go_wp2_with fail
    refine (common_h HX.out gL (Nat.le_refl _) HC.out hK4 hrah.out).mono ?_
    rintro e w1 ⟨A1, m1, c1, y1, rfl, hb, hok1⟩
    replace B := hide (Below.then_ B.out hb)
    replace HY := hide (HY.out.then_ hb)
    replace HD := hide (HD.out.then_ hb)
    obtain ⟨X1, P, V, hmn, HL, R1, hV0, hVK, hrat⟩ := hok1 rfl
    have hnm := hmn.symm
    subst hnm
    clear hmn hb hok1
    replace HL := hide HL
    replace R1 := hide R1
    replace hV0 := hide hV0
    replace hVK := hide hVK
    replace hrat := hide hrat
    have hPK := hide (parts_lt hrah.out hV0.out hVK.out hrat.out)
    go_wp2_with fail
    refine (common_h HY.out gL (Nat.le_refl _) HD.out hK4 hrbh.out).mono ?_
    rintro e w2 ⟨A2, m2, c2, y2, rfl, hb, hok2⟩
    replace B := hide (Below.then_ B.out hb)
    replace HL := hide (HL.out.then_ hb)
    replace R1 := hide (R1.out.then_ hb)
    obtain ⟨X2, Q, U, hmn, HM, R2, hU0, hUK, hrat2⟩ := hok2 rfl
    have hnm := hmn.symm
    subst hnm
    clear hmn hb hok2
    replace HM := hide HM
    replace R2 := hide R2
    replace hU0 := hide hU0
    replace hUK := hide hUK
    replace hrat2 := hide hrat2
    have hQK := hide (parts_lt hrbh.out hU0.out hUK.out hrat2.out)
    by_cases hlong : 121 < na + nb - 1
    · simp [cvK, hlong] at hk
      obtain ⟨rfl, rfl⟩ := hk
      have d0 : decide ((121 : Int) < (na : Int) + (nb : Int) - 1) = true := by simp; omega
      clear hlong
      go_wp2
      go_ret2
      exact le_nil B.out
    · simp [cvK, hlong] at hk
      obtain ⟨rfl, rfl⟩ := hk
      have d0 : decide ((121 : Int) < (na : Int) + (nb : Int) - 1) = false := by simp; omega
      have hcn := hide (show ∀ i, i < na + nb - 1 → cvn na nb P Q i < pw (K + K + 1) from fun i _ => cvn_lt hPK.out hQK.out (by omega))
      have hv2 := hide (show ∀ i, i < 2 → (fun i => if i = 0 then V else U) i ≠ 0 from fun i _ => by
        dsimp only
        split
        · exact hV0.out
        · exact hU0.out)
      have hnp := hide (show np (fun i => if i = 0 then V else U) 2 < pw (K + K + 1) by
        rw [np_two]
        refine pw_le (i := K + K) (by omega) ?_
        rw [pw_add]
        exact Nat.mul_lt_mul'' hVK.out hUK.out)
      have hval := hide (show ∀ i, Rat.divInt (cvn na nb P Q i : Int) (np (fun i => if i = 0 then V else U) 2 : Int) = cv (ex na a) (ex nb b) i from fun i => by
        rw [np_two]
        exact divInt_of (Nat.mul_ne_zero hV0.out hU0.out) (cvn_rat hrat.out hrat2.out i))
      have hcp1 := HL.out.cap
      have hcp2 := HM.out.cap
      clear hlong
      go_wp2_with fail
      refine (convolved_n (N := na + nb - 1) (Ka := K) (Kb := K) HL.out HM.out (Nat.le_refl _) (by omega) (by omega) (by omega) hPK.out hQK.out (by omega)).mono ?_
      rintro e w3 ⟨g3, c3, Z3, rfl, H3o, hb⟩
      have H3 := H3o.read
      clear H3o
      have hal : Below w3.heap.size w3 (w3.alloc (.cells #[.slice y1.A y1.n y1.c, .slice y2.A y2.n y2.c] 23)) := Below.al_ (Below.refl _ _) _
      have HW := hide (ln_two (R1.out.then_ hb) (R2.out.then_ hb))
      have hcp3 := H3.cap
      have hcp4 := H3.cbig
      replace H3 := hide (H3.then_ hal)
      replace B := hide (Below.then_ (Below.then_ B.out hb) hal)
      clear hb hal
      go_wp2_with fail
      refine (lowest_q (K := K + K + 1) H3.out HW.out (Nat.le_refl _) (by omega) (by omega) hcn.out hv2.out hnp.out (by omega)).mono ?_
      rintro e w4 ⟨A4, c4, Z4, y4, rfl, H4, hy4, hb⟩
      replace B := hide (Below.then_ B.out hb)
      replace H4 := hide H4
      replace hy4 := hide hy4
      clear hb
      go_wp2
      go_ret2
      exact ⟨_, _, Z4, y4, rfl, H4.out, fun i hi => (hy4.out i hi).trans (hval.out i), B.out⟩
  · have hk2 : (k, n) = ((1 : Int), (0 : Nat)) := by rw [← hk]; exact if_neg hboth
    simp only [Prod.mk.injEq] at hk2
    obtain ⟨rfl, rfl⟩ := hk2
    have hb2 : (ra = true ∧ rb = false) ∨ ra = false := by cases ra <;> cases rb <;> simp at hboth ⊢
    clear hk hboth hra hrb
    rcases hb2 with ⟨rfl, rfl⟩ | rfl
    all_goals
      go_enter Try.func42, Try.ntmps42
      go_wp2_with fail
      refine (common_h HX.out gL (Nat.le_refl _) HC.out hK4 hrah.out).mono ?_
      rintro e w1 ⟨A1, m1, c1, y1, rfl, hb, hok1⟩
      replace B := hide (Below.then_ B.out hb)
      replace HY := hide (HY.out.then_ hb)
      replace HD := hide (HD.out.then_ hb)
      clear hb hok1
      go_wp2_with fail
      refine (common_h HY.out gL (Nat.le_refl _) HD.out hK4 hrbh.out).mono ?_
      rintro e w2 ⟨A2, m2, c2, y2, rfl, hb, hok2⟩
      replace B := hide (Below.then_ B.out hb)
      clear hb hok2
      go_wp2
      go_ret2
      exact le_nil B.out
end

section
open Go.RowKit

theorem run_make_nats (n : Nat) (hn : n ≤ 1000000000) (w : World) : Sem.run Try.prog (Instr.makeSlice 82 (Value.int IntKind.i64 (n : Int)) (Value.int IntKind.i64 (n : Int))) w = .ok (.slice (some ⟨w.heap.size, 0, none⟩) n n) (w.alloc (.cells (madeCells (Value.slice none 0 0).cells n) 23)) := by
  obtain ⟨i0, hi, hz0, hz1, hz2⟩ := info_parts Try.infoNat
  have hr := run_make (P := Try.prog) w 82 23 i0 (.slice none 0 0) Try.underlying82 hi hz0 .i64 .i64 n n (by omega) (Int.le_refl _) (by rw [hz2]; omega) (by omega)
  simp only [Int.toNat_natCast, hz1, Nat.mul_one] at hr
  exact hr
theorem OwnN.made (w : World) {B n : Nat} (hn : n ≤ 1000000000) (hB : B ≤ w.heap.size) : OwnN (w.alloc (.cells (madeCells (Value.slice none 0 0).cells n) 23)) B (.slice (some ⟨w.heap.size, 0, none⟩) n n) n (fun _ => zeroNc) (fun _ => 0) := by
  refine ⟨⟨by rw [cellsN_length, Nat.mul_one], .inr ⟨w.heap.size, n, _, rfl, hB, heap_alloc_new w _, Nat.le_refl _, by simp only [maxLen]; omega, by rw [size_madeCells]; omega, ?_⟩⟩, fun g hg => ?_, fun i _ => Nn.zero _ _ (by omega) _⟩
  · rw [cellsN_zero, List.take_of_length_le (by simp [madeCells])]
  · simp only [Value.ownBlock, Option.some.injEq] at hg
    subst hg
    refine ⟨_, heap_alloc_new w _, fun j u hu => ?_⟩
    have hu' : (cellsN (fun _ => zeroNc) n)[j]? = some u := by rw [cellsN_zero]; simpa using hu
    obtain ⟨_, rfl⟩ := cellsN_some hu'
    exact fun x e => by cases e
theorem LN.beside {w w' : World} {n c h : Nat} {X : Nat → Nc} {q : Nat → Nat} {row : Option Nat} (hx : LN w w.heap.size (some ⟨h, 0, none⟩) n c X q) (hU : ∀ g, row = some g → ∃ cur t z, w.heap[g]? = some (.cells cur t z) ∧ ∀ (j : Nat) u, cur[j]? = some u → NoU u) (hg : w.grownBy w' row) (hne : some h ≠ row) : LN w' w'.heap.size (some ⟨h, 0, none⟩) n c X q :=
  ⟨hx.cap, hx.cbig, fun hn => by
    obtain ⟨ad, e, ha, hi⟩ := hx.cells hn
    simp only [Option.some.injEq] at e
    subst e
    refine ⟨_, rfl, Nat.lt_of_lt_of_le ha hg.size, fun i hin => ?_⟩
    exact (World.cell?_of_block (hg.block _ (by rw [block_add]; exact ha) fun e2 => hne (by rw [block_add] at e2; exact e2))).trans (hi i hin), fun i hi => (hx.nums i hi).grownN hU hg⟩
theorem part_le {ps : List Rat} (h : ∀ p ∈ ps, 0 ≤ p ∧ p ≤ 1) {P D k : Nat} (e : (P : Rat) = trl ps k * (D : Rat)) : P ≤ D := by
  have h1 := Rat.mul_le_mul_of_nonneg_right (trl_le_one h k) (Rat.natCast_nonneg (a := D))
  rw [← e, Rat.one_mul] at h1
  exact Rat.natCast_le_natCast.1 h1
theorem dprod_mono {q : Nat → Rat} {i j : Nat} (h : i ≤ j) : dprod (ql i q) ≤ dprod (ql j q) := by
  obtain ⟨k, rfl⟩ : ∃ k, j = i + k := ⟨j - i, by omega⟩
  clear h
  induction k with
  | zero => exact Nat.le_refl _
  | succ k ih =>
    rw [← Nat.add_assoc, ql_succ, dprod_snoc]
    exact Nat.le_trans ih (Nat.le_mul_of_pos_right _ (q _).den_pos)
theorem np_dens (q : Nat → Rat) : ∀ n, np (fun i => (q i).den) n = dprod (ql n q)
  | 0 => rfl
  | n + 1 => by rw [np, np_dens q n, ql_succ, dprod_snoc]
set_option maxHeartbeats 8000000 in
set_option maxRecDepth 100000 in
theorem trials_p {nf : Nat → Bool} {w : World} {Bd n c : Nat} {A : Option Addr} {X : Nat → Rc} {q : Nat → Rat} (hx : LQ nf w Bd 1048576 A n c X q) (hs : n + szs X n ≤ 1048576) (hB : Bd ≤ w.heap.size) {k : Int} {N : Nat} (hk : trK n q = (k, N)) :
    Calls Try.prog 13 #[.slice A n c] w (RetLE w 1048577 N (trl (ql n q)) k) := by
  have hcap := hx.cap
  have hcb := hx.cbig
  have HX := hide (hx.upto (Below.refl _ _) hB)
  have B := hide (Below.refl w.heap.size w)
  have hsh := hide hs
  have hkh := hide hk
  have hn1 : n ≤ 1048576 := by omega
  clear hx hB hs hk
  go_enter Try.func13, Try.ntmps13
  go_wp2
  go_loopw [15] (fun i wr => ∃ (j : Nat), j ≤ n ∧ i = .int .i64 j ∧ Hid (∀ i, i < j → shB (q i) = true) ∧ Hid (Below w.heap.size w wr)) (fun i _ => n - (intOf i).toNat)
  case atStart => exact ⟨0, Nat.zero_le _, rfl, hide fun i hi => by omega, B⟩
  case round =>
    obtain ⟨j, hj, rfl, hsb, B2⟩ := hrel
    clear B
    by_cases hjl : j < n
    · have hj64 : (j : Int) < (n : Int) := by omega
      have HW := HX.out.then_ B2.out
      obtain ⟨ad, hA, hab, E0, E1, E2⟩ := HW.all hjl
      subst hA
      replace E0 := E0 wr (Below.refl _ _)
      replace E1 := E1 wr (Below.refl _ _)
      replace E2 := E2 wr (Below.refl _ _)
      have RX := hide (HW.nums j hjl).1
      obtain ⟨sb, hsbj⟩ : ∃ b, shB (q j) = b := ⟨_, rfl⟩
      have hsbh := hide hsbj
      clear HW hab
      go_wp2_with fail
      have hal : Below wr.heap.size wr (wr.alloc (Obj.cells #[Value.bool (X j).s, Value.slice (X j).A (X j).n (X j).c, Value.slice (X j).B (X j).m (X j).d] 27)) := Below.al_ (Below.refl _ _) _
      refine (isprob_q (RX.out.then_ hal) (by omega) (Nat.le_refl _) hsbh.out).mono ?_
      rintro e w3 ⟨rfl, hb⟩
      have B3 := hide (Below.then_ (Below.then_ B2.out hal) hb)
      clear hb hal E0 E1 E2 RX
      cases sb with
      | false =>
        have hbad := hide (trK_bad hjl hsbj)
        rw [hkh.out] at hbad
        obtain ⟨rfl, rfl⟩ := Prod.mk.inj hbad.out
        clear hsbj hbad
        go_wp2
        go_ret2
        exact le_nil B3.out
      | true =>
        have hsb2 := hide (show ∀ i, i < j + 1 → shB (q i) = true from fun i hi => by
          by_cases e : i = j
          · rw [e]; exact hsbj
          · exact hsb.out i (by omega))
        clear hsbj
        go_wp2
        go_roundw
        case rel => exact ⟨j + 1, by omega, by go_num, hsb2, B3⟩
        case measure => simp [intOf]; omega
    · obtain rfl : j = n := by omega
      by_cases hlong : 121 ≤ j
      · have d0 : decide ((120 : Int) < (j : Int)) = true := by simp; omega
        have hl := hide (trK_long hsb.out hlong)
        rw [hkh.out] at hl
        obtain ⟨rfl, rfl⟩ := Prod.mk.inj hl.out
        clear hl hlong
        go_wp2
        go_ret2
        exact le_nil B2.out
      · have d0 : decide ((120 : Int) < (j : Int)) = false := by simp; omega
        have hl := hide (trK_ok hsb.out hlong)
        rw [hkh.out] at hl
        obtain ⟨rfl, rfl⟩ := Prod.mk.inj hl.out
        have h121 : j ≤ 120 := by omega
        clear hl hlong
        have hbx := Below.drw_ wr
        have hmk := run_make_nats j (by omega)
        go_wp2_with fail
        go_region_with (go_at_call 53; refine (of1_c _).mono ?_; rintro e w3 ⟨x3, rfl, R3, hb3⟩; replace R3 := hide R3)
        · skip
          have B3 := hide (Below.then_ B2.out (Below.then_ hbx hb3))
          have HL := hide ((ln_one R3.out).then_ (Below.al_ (Below.refl _ _) (.cells (madeCells (Value.slice none 0 0).cells j) 23)))
          have hO := hide (show OwnN ((w3.alloc (.cells #[.slice x3.A x3.n x3.c] 23)).alloc (.cells (madeCells (Value.slice none 0 0).cells j) 23)) w.heap.size (.slice (some ⟨w3.heap.size + 1, 0, none⟩) j j) j (fun _ => zeroNc) (fun _ => 0) by simpa using OwnN.made (w3.alloc (.cells #[.slice x3.A x3.n x3.c] 23)) (B := w.heap.size) (n := j) (by omega) (Below.al_ B3.out _).size)
          have B4 := hide (Below.al_ (Below.al_ B3.out (.cells #[.slice x3.A x3.n x3.c] 23)) (.cells (madeCells (Value.slice none 0 0).cells j) 23))
          clear B2 hbx hmk R3 hb3 B3
          have hst := hide (show ∀ k, k < 0 + 1 → (((fun _ : Nat => (1 : Nat)) k : Nat) : Rat) = trl (ql 0 q) k * ((dprod (ql 0 q) : Nat) : Rat) from fun k hk => by
            obtain rfl : k = 0 := by omega
            simp [ql, trl, dl0, dprod])
          go_wp2
          obtain ⟨g, hg⟩ : ∃ g, g = w3.heap.size + 1 := ⟨_, rfl⟩
          rw [← hg] at hO
          try rw [← hg] at HL
          simp only [← hg]
          have hga : w3.heap.size ≠ g := by omega
          clear hg
          go_loopw [6, 33] (fun pv iv wr => ∃ (i c6 h : Nat) (Z Y : Nat → Nc) (p y : Nat → Nat), i ≤ j ∧ h ≠ g ∧ pv = .slice (some ⟨h, 0, none⟩) (i + 1) c6 ∧ iv = .int .i64 i ∧ i + 1 ≤ c6 ∧ c6 ≤ 9223372036854775807 ∧ Hid (LN wr wr.heap.size (some ⟨h, 0, none⟩) (i + 1) c6 Z p) ∧ Hid (∀ k, k < i + 1 → (p k : Rat) = trl (ql i q) k * ((dprod (ql i q) : Nat) : Rat)) ∧ Hid (OwnN wr w.heap.size (.slice (some ⟨g, 0, none⟩) j j) j Y y) ∧ Hid (∀ k, k < i → y k = (q k).den) ∧ Hid (Below w.heap.size w wr)) (fun _ iv _ => j - (intOf iv).toNat)
          case atStart => exact ⟨0, 1, _, _, _, _, _, Nat.zero_le _, hga, rfl, rfl, by omega, by omega, HL, hst, hO, hide fun k hk => by omega, B4⟩
          case round =>
            obtain ⟨i, c6, h, Z, Y, p, y, hi, hhg, rfl, rfl, hc1, hc2, HP, hp, hY, hy, B5⟩ := hrel
            clear HL hO hst B4 hga
            by_cases hil : i < j
            · have hi64 : (i : Int) < (j : Int) := by omega
              have HW := HX.out.then_ B5.out
              obtain ⟨ad, hA, hab, E0, E1, E2⟩ := HW.all hil
              subst hA
              replace E0 := E0 wr (Below.refl _ _)
              replace E1 := E1 wr (Below.refl _ _)
              replace E2 := E2 wr (Below.refl _ _)
              have RX := hide (HW.nums i hil).1
              have hsi : 0 ≤ q i ∧ q i ≤ 1 := by simpa [shB] using hsb.out i hil
              have hsih := hide hsi
              clear HW hab hsi
              go_wp2_with fail
              have hal : Below wr.heap.size wr (wr.alloc (Obj.cells #[Value.bool (X i).s, Value.slice (X i).A (X i).n (X i).c, Value.slice (X i).B (X i).m (X i).d] 27)) := Below.al_ (Below.refl _ _) _
              refine (chances_q (RX.out.then_ hal) (by omega) (Nat.le_refl _) hsih.out.1 hsih.out.2 rfl rfl rfl).mono ?_
              rintro e w5 ⟨x5, y5, z5, rfl, R5, R6, R7, hb⟩
              have hb2 := Below.then_ hal hb
              replace HP := hide (HP.out.then_ hb2)
              replace hY := hide (hY.out.then_ hb2)
              replace B5 := hide (Below.then_ B5.out hb2)
              replace R5 := hide R5
              replace R6 := hide R6
              replace R7 := hide R7
              clear hb hb2 hal E0 E1 E2 RX
              go_wp2_with fail
              have hDj := hide (show dprod (ql j q) < pw 1048577 from Nat.lt_of_le_of_lt (dprod_le HX.out (i := j) (Nat.le_refl _)) (Nat.lt_of_le_of_lt (pw_le' hsh.out) (by rw [show 1048577 = 1048576 + 1 from rfl, pw_add]; exact (Nat.lt_mul_iff_one_lt_right (pw_pos _)).2 (by decide))))
              have hDi := hide (show dprod (ql (i + 1) q) = dprod (ql i q) * (q i).den by rw [ql_succ, dprod_snoc])
              have hdn := hide (show (q i).den < pw 1048577 from Nat.lt_of_le_of_lt (Nat.le_trans (by rw [hDi.out]; exact Nat.le_mul_of_pos_left _ (dprod_pos _)) (dprod_mono (i := i + 1) (j := j) (by omega))) hDj.out)
              have hpK := hide (show ∀ k, k < i + 1 → p k < pw 1048577 from fun k hk => Nat.lt_of_le_of_lt (Nat.le_trans (part_le (ql_mem fun m hm => hsb.out m (by omega)) (hp.out k hk)) (dprod_mono (by omega))) hDj.out)
              have hcr := hide (chance_rat hsih.out.1 hsih.out.2)
              have htK := hide (show ∀ k, k < 2 → (fun m => if m = 0 then (q i).den - zmag (q i).num else zmag (q i).num) k < pw 1048577 from fun k _ => by
                have := hdn.out
                have := share_num hsih.out.1 hsih.out.2
                dsimp only
                split <;> omega)
              have hnew := hide (show ∀ k, k < (i + 1) + 1 → ((cvn (i + 1) 2 p (fun m => if m = 0 then (q i).den - zmag (q i).num else zmag (q i).num) k : Nat) : Rat) = trl (ql (i + 1) q) k * ((dprod (ql (i + 1) q) : Nat) : Rat) from fun k _ => by
                rw [hDi.out, cvn_rat (W := (q i).den) (q := two (1 - q i) (q i)) hp.out (fun m hm => ?_) k, trl_next (fun _ _ => rfl)]
                rcases (by omega : m = 0 ∨ m = 1) with rfl | rfl
                · exact hcr.out.2
                · exact hcr.out.1)
              have HW2 := hide (ln_two (R6.out) (R5.out))
              have hal : Below w5.heap.size w5 (w5.alloc (.cells #[.slice y5.A y5.n y5.c, .slice x5.A x5.n x5.c] 23)) := Below.al_ (Below.refl _ _) _
              refine (convolved_n (N := i + 1 + 1) (Ka := 1048577) (Kb := 1048577) (HP.out.then_ hal) HW2.out (Nat.le_refl _) (by omega) (by omega) (by omega) hpK.out htK.out (by omega)).mono ?_
              rintro e w6 ⟨h6, c7, Z6, rfl, H6o, hb⟩
              have hb2 := Below.then_ hal hb
              have hY6 := hY.out.then_ hb2
              have hh6 : h6 ≠ g := (Nat.ne_of_lt (Nat.lt_of_lt_of_le (Nat.lt_of_lt_of_le hY.out.block.2 hal.size) H6o.block.1)).symm
              have H6 := H6o.read
              obtain ⟨G0, G1, G2⟩ := hY6.all hil
              replace G0 := G0 w6 (Below.refl _ _)
              replace G1 := G1 i w6 (Below.refl _ _)
              replace G2 := G2 w6 (Below.refl _ _)
              have hc61 := H6.cap
              have hc62 := H6.cbig
              have hS := hide (hY6.set hil (R7.out.then_ hb2))
              have hgr := setN_grown w6 g i z5
              have B6 := hide (hY6.below hgr (Below.then_ B5.out hb2) (Below.then_ B5.out hb2).size)
              have HP6 := hide (H6.beside (row := some g) hY6.noU hgr (fun e => hh6 (Option.some.inj e)))
              have hy2 := hide (show ∀ k, k < i + 1 → upd y i (q i).den k = (q k).den from fun k hk => by
                by_cases e : k = i
                · rw [e, upd_same]
                · rw [upd_ne e]; exact hy.out k (by omega))
              clear hb hb2 hal hgr hY6 H6 H6o HW2 R5 R6 R7 HP hY B5 hp hy
              go_wp2
              go_roundw
              case rel => exact ⟨i + 1, c7, h6, Z6, _, _, _, by omega, hh6, by go_num, by go_num, by omega, by omega, HP6, hnew, hS, hy2, B6⟩
              case measure => simp [intOf]; omega
            · obtain rfl : i = j := by omega
              have hDj := hide (show dprod (ql i q) < pw 1048577 from Nat.lt_of_le_of_lt (dprod_le HX.out (i := i) (Nat.le_refl _)) (Nat.lt_of_le_of_lt (pw_le' hsh.out) (by rw [show 1048577 = 1048576 + 1 from rfl, pw_add]; exact (Nat.lt_mul_iff_one_lt_right (pw_pos _)).2 (by decide))))
              have hpK := hide (show ∀ k, k < i + 1 → p k < pw 1048577 from fun k hk => Nat.lt_of_le_of_lt (part_le (ql_mem fun m hm => hsb.out m (by omega)) (hp.out k hk)) hDj.out)
              have hfy := hide (OwnN.congr (r := fun k => (q k).den) hY.out hy.out).read
              have hval := hide (show ∀ k, k < i + 1 → Rat.divInt (p k : Int) (np (fun k => (q k).den) i : Int) = trl (ql i q) k from fun k hk => by
                rw [np_dens]
                exact divInt_of (Nat.pos_iff_ne_zero.1 (dprod_pos _)) (hp.out k hk))
              go_wp2_with fail
              refine (lowest_q (K := 1048577) HP.out hfy.out (Nat.le_refl _) (by omega) (by omega) hpK.out (fun k _ => (q k).den_nz) (by rw [np_dens]; exact hDj.out) (by omega)).mono ?_
              rintro e w6 ⟨A6, c7, Z6, y6, rfl, H6, hy6, hb⟩
              have B6 := hide (Below.then_ B5.out hb)
              replace H6 := hide H6
              replace hy6 := hide hy6
              clear hb
              go_wp2
              go_ret2
              exact ⟨_, _, Z6, y6, rfl, H6.out, fun k hk => (hy6.out k hk).trans (hval.out k hk), B6.out⟩
        · skip
          have B3 := hide (Below.then_ B2.out (Below.then_ hbx hb3))
          have HL := hide (show LN ((w3.alloc (.cells (madeCells (Value.slice none 0 0).cells j) 23)).alloc (.cells #[.slice x3.A x3.n x3.c] 23)) ((w3.alloc (.cells (madeCells (Value.slice none 0 0).cells j) 23)).alloc (.cells #[.slice x3.A x3.n x3.c] 23)).heap.size (some ⟨w3.heap.size + 1, 0, none⟩) 1 1 (fun _ => x3) (fun _ => 1) by simpa using ln_one (R3.out.then_ (Below.al_ (Below.refl _ _) (.cells (madeCells (Value.slice none 0 0).cells j) 23))))
          have hO := hide ((OwnN.made w3 (B := w.heap.size) (n := j) (by omega) B3.out.size).then_ (Below.al_ (Below.refl _ _) (.cells #[.slice x3.A x3.n x3.c] 23)))
          have B4 := hide (Below.al_ (Below.al_ B3.out (.cells (madeCells (Value.slice none 0 0).cells j) 23)) (.cells #[.slice x3.A x3.n x3.c] 23))
          clear B2 hbx hmk R3 hb3 B3
          have hst := hide (show ∀ k, k < 0 + 1 → (((fun _ : Nat => (1 : Nat)) k : Nat) : Rat) = trl (ql 0 q) k * ((dprod (ql 0 q) : Nat) : Rat) from fun k hk => by
            obtain rfl : k = 0 := by omega
            simp [ql, trl, dl0, dprod])
          go_wp2
          obtain ⟨g, hg⟩ : ∃ g, g = w3.heap.size := ⟨_, rfl⟩
          rw [← hg] at hO
          try rw [← hg] at HL
          simp only [← hg]
          have hga : g + 1 ≠ g := by omega
          clear hg
          go_loopw [6, 33] (fun pv iv wr => ∃ (i c6 h : Nat) (Z Y : Nat → Nc) (p y : Nat → Nat), i ≤ j ∧ h ≠ g ∧ pv = .slice (some ⟨h, 0, none⟩) (i + 1) c6 ∧ iv = .int .i64 i ∧ i + 1 ≤ c6 ∧ c6 ≤ 9223372036854775807 ∧ Hid (LN wr wr.heap.size (some ⟨h, 0, none⟩) (i + 1) c6 Z p) ∧ Hid (∀ k, k < i + 1 → (p k : Rat) = trl (ql i q) k * ((dprod (ql i q) : Nat) : Rat)) ∧ Hid (OwnN wr w.heap.size (.slice (some ⟨g, 0, none⟩) j j) j Y y) ∧ Hid (∀ k, k < i → y k = (q k).den) ∧ Hid (Below w.heap.size w wr)) (fun _ iv _ => j - (intOf iv).toNat)
          case atStart => exact ⟨0, 1, _, _, _, _, _, Nat.zero_le _, hga, rfl, rfl, by omega, by omega, HL, hst, hO, hide fun k hk => by omega, B4⟩
          case round =>
            obtain ⟨i, c6, h, Z, Y, p, y, hi, hhg, rfl, rfl, hc1, hc2, HP, hp, hY, hy, B5⟩ := hrel
            clear HL hO hst B4 hga
            by_cases hil : i < j
            · have hi64 : (i : Int) < (j : Int) := by omega
              have HW := HX.out.then_ B5.out
              obtain ⟨ad, hA, hab, E0, E1, E2⟩ := HW.all hil
              subst hA
              replace E0 := E0 wr (Below.refl _ _)
              replace E1 := E1 wr (Below.refl _ _)
              replace E2 := E2 wr (Below.refl _ _)
              have RX := hide (HW.nums i hil).1
              have hsi : 0 ≤ q i ∧ q i ≤ 1 := by simpa [shB] using hsb.out i hil
              have hsih := hide hsi
              clear HW hab hsi
              go_wp2_with fail
              have hal : Below wr.heap.size wr (wr.alloc (Obj.cells #[Value.bool (X i).s, Value.slice (X i).A (X i).n (X i).c, Value.slice (X i).B (X i).m (X i).d] 27)) := Below.al_ (Below.refl _ _) _
              refine (chances_q (RX.out.then_ hal) (by omega) (Nat.le_refl _) hsih.out.1 hsih.out.2 rfl rfl rfl).mono ?_
              rintro e w5 ⟨x5, y5, z5, rfl, R5, R6, R7, hb⟩
              have hb2 := Below.then_ hal hb
              replace HP := hide (HP.out.then_ hb2)
              replace hY := hide (hY.out.then_ hb2)
              replace B5 := hide (Below.then_ B5.out hb2)
              replace R5 := hide R5
              replace R6 := hide R6
              replace R7 := hide R7
              clear hb hb2 hal E0 E1 E2 RX
              go_wp2_with fail
              have hDj := hide (show dprod (ql j q) < pw 1048577 from Nat.lt_of_le_of_lt (dprod_le HX.out (i := j) (Nat.le_refl _)) (Nat.lt_of_le_of_lt (pw_le' hsh.out) (by rw [show 1048577 = 1048576 + 1 from rfl, pw_add]; exact (Nat.lt_mul_iff_one_lt_right (pw_pos _)).2 (by decide))))
              have hDi := hide (show dprod (ql (i + 1) q) = dprod (ql i q) * (q i).den by rw [ql_succ, dprod_snoc])
              have hdn := hide (show (q i).den < pw 1048577 from Nat.lt_of_le_of_lt (Nat.le_trans (by rw [hDi.out]; exact Nat.le_mul_of_pos_left _ (dprod_pos _)) (dprod_mono (i := i + 1) (j := j) (by omega))) hDj.out)
              have hpK := hide (show ∀ k, k < i + 1 → p k < pw 1048577 from fun k hk => Nat.lt_of_le_of_lt (Nat.le_trans (part_le (ql_mem fun m hm => hsb.out m (by omega)) (hp.out k hk)) (dprod_mono (by omega))) hDj.out)
              have hcr := hide (chance_rat hsih.out.1 hsih.out.2)
              have htK := hide (show ∀ k, k < 2 → (fun m => if m = 0 then (q i).den - zmag (q i).num else zmag (q i).num) k < pw 1048577 from fun k _ => by
                have := hdn.out
                have := share_num hsih.out.1 hsih.out.2
                dsimp only
                split <;> omega)
              have hnew := hide (show ∀ k, k < (i + 1) + 1 → ((cvn (i + 1) 2 p (fun m => if m = 0 then (q i).den - zmag (q i).num else zmag (q i).num) k : Nat) : Rat) = trl (ql (i + 1) q) k * ((dprod (ql (i + 1) q) : Nat) : Rat) from fun k _ => by
                rw [hDi.out, cvn_rat (W := (q i).den) (q := two (1 - q i) (q i)) hp.out (fun m hm => ?_) k, trl_next (fun _ _ => rfl)]
                rcases (by omega : m = 0 ∨ m = 1) with rfl | rfl
                · exact hcr.out.2
                · exact hcr.out.1)
              have HW2 := hide (ln_two (R6.out) (R5.out))
              have hal : Below w5.heap.size w5 (w5.alloc (.cells #[.slice y5.A y5.n y5.c, .slice x5.A x5.n x5.c] 23)) := Below.al_ (Below.refl _ _) _
              refine (convolved_n (N := i + 1 + 1) (Ka := 1048577) (Kb := 1048577) (HP.out.then_ hal) HW2.out (Nat.le_refl _) (by omega) (by omega) (by omega) hpK.out htK.out (by omega)).mono ?_
              rintro e w6 ⟨h6, c7, Z6, rfl, H6o, hb⟩
              have hb2 := Below.then_ hal hb
              have hY6 := hY.out.then_ hb2
              have hh6 : h6 ≠ g := (Nat.ne_of_lt (Nat.lt_of_lt_of_le (Nat.lt_of_lt_of_le hY.out.block.2 hal.size) H6o.block.1)).symm
              have H6 := H6o.read
              obtain ⟨G0, G1, G2⟩ := hY6.all hil
              replace G0 := G0 w6 (Below.refl _ _)
              replace G1 := G1 i w6 (Below.refl _ _)
              replace G2 := G2 w6 (Below.refl _ _)
              have hc61 := H6.cap
              have hc62 := H6.cbig
              have hS := hide (hY6.set hil (R7.out.then_ hb2))
              have hgr := setN_grown w6 g i z5
              have B6 := hide (hY6.below hgr (Below.then_ B5.out hb2) (Below.then_ B5.out hb2).size)
              have HP6 := hide (H6.beside (row := some g) hY6.noU hgr (fun e => hh6 (Option.some.inj e)))
              have hy2 := hide (show ∀ k, k < i + 1 → upd y i (q i).den k = (q k).den from fun k hk => by
                by_cases e : k = i
                · rw [e, upd_same]
                · rw [upd_ne e]; exact hy.out k (by omega))
              clear hb hb2 hal hgr hY6 H6 H6o HW2 R5 R6 R7 HP hY B5 hp hy
              go_wp2
              go_roundw
              case rel => exact ⟨i + 1, c7, h6, Z6, _, _, _, by omega, hh6, by go_num, by go_num, by omega, by omega, HP6, hnew, hS, hy2, B6⟩
              case measure => simp [intOf]; omega
            · obtain rfl : i = j := by omega
              have hDj := hide (show dprod (ql i q) < pw 1048577 from Nat.lt_of_le_of_lt (dprod_le HX.out (i := i) (Nat.le_refl _)) (Nat.lt_of_le_of_lt (pw_le' hsh.out) (by rw [show 1048577 = 1048576 + 1 from rfl, pw_add]; exact (Nat.lt_mul_iff_one_lt_right (pw_pos _)).2 (by decide))))
              have hpK := hide (show ∀ k, k < i + 1 → p k < pw 1048577 from fun k hk => Nat.lt_of_le_of_lt (part_le (ql_mem fun m hm => hsb.out m (by omega)) (hp.out k hk)) hDj.out)
              have hfy := hide (OwnN.congr (r := fun k => (q k).den) hY.out hy.out).read
              have hval := hide (show ∀ k, k < i + 1 → Rat.divInt (p k : Int) (np (fun k => (q k).den) i : Int) = trl (ql i q) k from fun k hk => by
                rw [np_dens]
                exact divInt_of (Nat.pos_iff_ne_zero.1 (dprod_pos _)) (hp.out k hk))
              go_wp2_with fail
              refine (lowest_q (K := 1048577) HP.out hfy.out (Nat.le_refl _) (by omega) (by omega) hpK.out (fun k _ => (q k).den_nz) (by rw [np_dens]; exact hDj.out) (by omega)).mono ?_
              rintro e w6 ⟨A6, c7, Z6, y6, rfl, H6, hy6, hb⟩
              have B6 := hide (Below.then_ B5.out hb)
              replace H6 := hide H6
              replace hy6 := hide hy6
              clear hb
              go_wp2
              go_ret2
              exact ⟨_, _, Z6, y6, rfl, H6.out, fun k hk => (hy6.out k hk).trans (hval.out k hk), B6.out⟩
        · skip
          have hO0 := hide (OwnN.made wr (B := w.heap.size) (n := j) (by omega) B2.out.size)
          have B3 := hide (Below.then_ (Below.al_ B2.out (.cells (madeCells (Value.slice none 0 0).cells j) 23)) (Below.then_ (Below.drw_ _) hb3))
          have HL := hide (ln_one R3.out)
          have hO := hide ((hO0.out.then_ (Below.then_ (Below.drw_ _) hb3)).then_ (Below.al_ (Below.refl _ _) (.cells #[.slice x3.A x3.n x3.c] 23)))
          have B4 := hide (Below.al_ B3.out (.cells #[.slice x3.A x3.n x3.c] 23))
          have hszw := hide (show wr.heap.size < w3.heap.size from by have := hb3.size; simp at this; omega)
          clear hO0
          clear B2 hbx hmk R3 hb3 B3
          have hst := hide (show ∀ k, k < 0 + 1 → (((fun _ : Nat => (1 : Nat)) k : Nat) : Rat) = trl (ql 0 q) k * ((dprod (ql 0 q) : Nat) : Rat) from fun k hk => by
            obtain rfl : k = 0 := by omega
            simp [ql, trl, dl0, dprod])
          go_wp2
          obtain ⟨g, hg⟩ : ∃ g, g = wr.heap.size := ⟨_, rfl⟩
          rw [← hg] at hO
          try rw [← hg] at HL
          simp only [← hg]
          have hga : w3.heap.size ≠ g := by have := hszw.out; omega
          clear hg
          go_loopw [6, 33] (fun pv iv wr => ∃ (i c6 h : Nat) (Z Y : Nat → Nc) (p y : Nat → Nat), i ≤ j ∧ h ≠ g ∧ pv = .slice (some ⟨h, 0, none⟩) (i + 1) c6 ∧ iv = .int .i64 i ∧ i + 1 ≤ c6 ∧ c6 ≤ 9223372036854775807 ∧ Hid (LN wr wr.heap.size (some ⟨h, 0, none⟩) (i + 1) c6 Z p) ∧ Hid (∀ k, k < i + 1 → (p k : Rat) = trl (ql i q) k * ((dprod (ql i q) : Nat) : Rat)) ∧ Hid (OwnN wr w.heap.size (.slice (some ⟨g, 0, none⟩) j j) j Y y) ∧ Hid (∀ k, k < i → y k = (q k).den) ∧ Hid (Below w.heap.size w wr)) (fun _ iv _ => j - (intOf iv).toNat)
          case atStart => exact ⟨0, 1, _, _, _, _, _, Nat.zero_le _, hga, rfl, rfl, by omega, by omega, HL, hst, hO, hide fun k hk => by omega, B4⟩
          case round =>
            obtain ⟨i, c6, h, Z, Y, p, y, hi, hhg, rfl, rfl, hc1, hc2, HP, hp, hY, hy, B5⟩ := hrel
            clear HL hO hst B4 hga
            by_cases hil : i < j
            · have hi64 : (i : Int) < (j : Int) := by omega
              have HW := HX.out.then_ B5.out
              obtain ⟨ad, hA, hab, E0, E1, E2⟩ := HW.all hil
              subst hA
              replace E0 := E0 wr (Below.refl _ _)
              replace E1 := E1 wr (Below.refl _ _)
              replace E2 := E2 wr (Below.refl _ _)
              have RX := hide (HW.nums i hil).1
              have hsi : 0 ≤ q i ∧ q i ≤ 1 := by simpa [shB] using hsb.out i hil
              have hsih := hide hsi
              clear HW hab hsi
              go_wp2_with fail
              have hal : Below wr.heap.size wr (wr.alloc (Obj.cells #[Value.bool (X i).s, Value.slice (X i).A (X i).n (X i).c, Value.slice (X i).B (X i).m (X i).d] 27)) := Below.al_ (Below.refl _ _) _
              refine (chances_q (RX.out.then_ hal) (by omega) (Nat.le_refl _) hsih.out.1 hsih.out.2 rfl rfl rfl).mono ?_
              rintro e w5 ⟨x5, y5, z5, rfl, R5, R6, R7, hb⟩
              have hb2 := Below.then_ hal hb
              replace HP := hide (HP.out.then_ hb2)
              replace hY := hide (hY.out.then_ hb2)
              replace B5 := hide (Below.then_ B5.out hb2)
              replace R5 := hide R5
              replace R6 := hide R6
              replace R7 := hide R7
              clear hb hb2 hal E0 E1 E2 RX
              go_wp2_with fail
              have hDj := hide (show dprod (ql j q) < pw 1048577 from Nat.lt_of_le_of_lt (dprod_le HX.out (i := j) (Nat.le_refl _)) (Nat.lt_of_le_of_lt (pw_le' hsh.out) (by rw [show 1048577 = 1048576 + 1 from rfl, pw_add]; exact (Nat.lt_mul_iff_one_lt_right (pw_pos _)).2 (by decide))))
              have hDi := hide (show dprod (ql (i + 1) q) = dprod (ql i q) * (q i).den by rw [ql_succ, dprod_snoc])
              have hdn := hide (show (q i).den < pw 1048577 from Nat.lt_of_le_of_lt (Nat.le_trans (by rw [hDi.out]; exact Nat.le_mul_of_pos_left _ (dprod_pos _)) (dprod_mono (i := i + 1) (j := j) (by omega))) hDj.out)
              have hpK := hide (show ∀ k, k < i + 1 → p k < pw 1048577 from fun k hk => Nat.lt_of_le_of_lt (Nat.le_trans (part_le (ql_mem fun m hm => hsb.out m (by omega)) (hp.out k hk)) (dprod_mono (by omega))) hDj.out)
              have hcr := hide (chance_rat hsih.out.1 hsih.out.2)
              have htK := hide (show ∀ k, k < 2 → (fun m => if m = 0 then (q i).den - zmag (q i).num else zmag (q i).num) k < pw 1048577 from fun k _ => by
                have := hdn.out
                have := share_num hsih.out.1 hsih.out.2
                dsimp only
                split <;> omega)
              have hnew := hide (show ∀ k, k < (i + 1) + 1 → ((cvn (i + 1) 2 p (fun m => if m = 0 then (q i).den - zmag (q i).num else zmag (q i).num) k : Nat) : Rat) = trl (ql (i + 1) q) k * ((dprod (ql (i + 1) q) : Nat) : Rat) from fun k _ => by
                rw [hDi.out, cvn_rat (W := (q i).den) (q := two (1 - q i) (q i)) hp.out (fun m hm => ?_) k, trl_next (fun _ _ => rfl)]
                rcases (by omega : m = 0 ∨ m = 1) with rfl | rfl
                · exact hcr.out.2
                · exact hcr.out.1)
              have HW2 := hide (ln_two (R6.out) (R5.out))
              have hal : Below w5.heap.size w5 (w5.alloc (.cells #[.slice y5.A y5.n y5.c, .slice x5.A x5.n x5.c] 23)) := Below.al_ (Below.refl _ _) _
              refine (convolved_n (N := i + 1 + 1) (Ka := 1048577) (Kb := 1048577) (HP.out.then_ hal) HW2.out (Nat.le_refl _) (by omega) (by omega) (by omega) hpK.out htK.out (by omega)).mono ?_
              rintro e w6 ⟨h6, c7, Z6, rfl, H6o, hb⟩
              have hb2 := Below.then_ hal hb
              have hY6 := hY.out.then_ hb2
              have hh6 : h6 ≠ g := (Nat.ne_of_lt (Nat.lt_of_lt_of_le (Nat.lt_of_lt_of_le hY.out.block.2 hal.size) H6o.block.1)).symm
              have H6 := H6o.read
              obtain ⟨G0, G1, G2⟩ := hY6.all hil
              replace G0 := G0 w6 (Below.refl _ _)
              replace G1 := G1 i w6 (Below.refl _ _)
              replace G2 := G2 w6 (Below.refl _ _)
              have hc61 := H6.cap
              have hc62 := H6.cbig
              have hS := hide (hY6.set hil (R7.out.then_ hb2))
              have hgr := setN_grown w6 g i z5
              have B6 := hide (hY6.below hgr (Below.then_ B5.out hb2) (Below.then_ B5.out hb2).size)
              have HP6 := hide (H6.beside (row := some g) hY6.noU hgr (fun e => hh6 (Option.some.inj e)))
              have hy2 := hide (show ∀ k, k < i + 1 → upd y i (q i).den k = (q k).den from fun k hk => by
                by_cases e : k = i
                · rw [e, upd_same]
                · rw [upd_ne e]; exact hy.out k (by omega))
              clear hb hb2 hal hgr hY6 H6 H6o HW2 R5 R6 R7 HP hY B5 hp hy
              go_wp2
              go_roundw
              case rel => exact ⟨i + 1, c7, h6, Z6, _, _, _, by omega, hh6, by go_num, by go_num, by omega, by omega, HP6, hnew, hS, hy2, B6⟩
              case measure => simp [intOf]; omega
            · obtain rfl : i = j := by omega
              have hDj := hide (show dprod (ql i q) < pw 1048577 from Nat.lt_of_le_of_lt (dprod_le HX.out (i := i) (Nat.le_refl _)) (Nat.lt_of_le_of_lt (pw_le' hsh.out) (by rw [show 1048577 = 1048576 + 1 from rfl, pw_add]; exact (Nat.lt_mul_iff_one_lt_right (pw_pos _)).2 (by decide))))
              have hpK := hide (show ∀ k, k < i + 1 → p k < pw 1048577 from fun k hk => Nat.lt_of_le_of_lt (part_le (ql_mem fun m hm => hsb.out m (by omega)) (hp.out k hk)) hDj.out)
              have hfy := hide (OwnN.congr (r := fun k => (q k).den) hY.out hy.out).read
              have hval := hide (show ∀ k, k < i + 1 → Rat.divInt (p k : Int) (np (fun k => (q k).den) i : Int) = trl (ql i q) k from fun k hk => by
                rw [np_dens]
                exact divInt_of (Nat.pos_iff_ne_zero.1 (dprod_pos _)) (hp.out k hk))
              go_wp2_with fail
              refine (lowest_q (K := 1048577) HP.out hfy.out (Nat.le_refl _) (by omega) (by omega) hpK.out (fun k _ => (q k).den_nz) (by rw [np_dens]; exact hDj.out) (by omega)).mono ?_
              rintro e w6 ⟨A6, c7, Z6, y6, rfl, H6, hy6, hb⟩
              have B6 := hide (Below.then_ B5.out hb)
              replace H6 := hide H6
              replace hy6 := hide hy6
              clear hb
              go_wp2
              go_ret2
              exact ⟨_, _, Z6, y6, rfl, H6.out, fun k hk => (hy6.out k hk).trans (hval.out k hk), B6.out⟩
end

section
open Go.RowKit

theorem choose_c {w : World} {n k : Int} {N K : Nat} (hn : n = (N : Int)) (hk : k = (K : Int)) (hN : N ≤ 200) (hK : K ≤ 1000) : Calls Try.prog 50 #[.int .i64 n, .int .i64 k] w (RetCB w (ch N K) true) := by
  subst hn hk
  rw [← chI_any hN, ← okI_true (n := (N : Int)) (by omega) (by omega)]
  exact choose_any ⟨by omega, by omega⟩ ⟨by omega, by omega⟩
theorem Sm.lg {m : Nat} (h : Sm m) : Lg m := pw_le (by decide) h
theorem ch_mul_sm {a b c d : Nat} (ha : a ≤ 200) (hc : c ≤ 200) : Sm (ch a b * ch c d) := sm_mul (i := 200) (j := 200) (by omega) (ch_bnd (by omega)) (ch_bnd (by omega))
set_option maxHeartbeats 16000000 in
set_option maxRecDepth 100000 in
theorem hyper_p {w : World} {t m d : Int} {k : Int} {N : Nat} (hk : hyN t m d = (k, N)) :
    Calls Try.prog 40 #[.int .i64 t, .int .i64 m, .int .i64 d] w (RetLE w 1000000 N (hyp t.toNat m.toNat d.toNat) k) := by
  have B := hide (Below.refl w.heap.size w)
  by_cases hin : HyOk t m d
  · have hk2 := hk.symm.trans (if_pos (by simp [hin]))
    obtain ⟨⟨h1, h2⟩, ⟨h3, h4⟩, h5, h6⟩ := hin
    obtain ⟨T, rfl⟩ : ∃ T : Nat, t = (T : Int) := ⟨t.toNat, by omega⟩
    obtain ⟨M, rfl⟩ : ∃ M : Nat, m = (M : Int) := ⟨m.toNat, by omega⟩
    obtain ⟨D, rfl⟩ : ∃ D : Nat, d = (D : Int) := ⟨d.toNat, by omega⟩
    simp only [Prod.mk.injEq, Int.toNat_natCast] at hk2
    obtain ⟨rfl, rfl⟩ := hk2
    simp only [Int.toNat_natCast]
    obtain ⟨mn, hmn⟩ : ∃ mn, mn = min M D := ⟨_, rfl⟩
    rw [← hmn]
    obtain ⟨l, hl⟩ : ∃ l, l = mn + 1 := ⟨_, rfl⟩
    rw [← hl]
    have hmin : min (M : Int) (D : Int) = (mn : Int) := by omega
    have hl64 : (mn : Int) + 1 = (l : Int) := by omega
    have hT : T ≤ 120 := by omega
    have hM : M ≤ T := by omega
    have hD : D ≤ T := by omega
    have hmM : mn ≤ M := by omega
    have hmD : mn ≤ D := by omega
    have e0 : decide ((T : Int) < 0) = false := by simp
    have e1 : decide ((120 : Int) < (T : Int)) = false := by simp; omega
    have e2 : decide ((M : Int) < 0) = false := by simp
    have e3 : decide ((T : Int) < (M : Int)) = false := by simp; omega
    have e4 : decide (T < M) = false := by simp; omega
    have e5 : decide ((D : Int) < 0) = false := by simp
    have e6 : decide ((T : Int) < (D : Int)) = false := by simp; omega
    have e7 : decide (T < D) = false := by simp; omega
    have hpos := hide (Nat.pos_iff_ne_zero.1 (ch_pos hD))
    have hlh := hide hl
    clear hk h1 h2 h3 h4 h5 h6 hmn hl
    go_enter Try.func40, Try.ntmps40
    go_wp2_with fail
    refine (choose_c (N := T) (K := D) rfl rfl (by omega) (by omega)).mono ?_
    rintro e w1 ⟨x1, rfl, R1, hb⟩
    replace B := hide (Below.then_ B.out hb)
    replace R1 := hide R1
    clear hb
    go_wp2_with (at_make; refine wpList_make_rats rfl _ _ rfl _ _ _ _ l rfl rfl rfl rfl (by have := hlh.out; omega) w.heap.size 1000000 B.out.size ?_; intro w3 hO hb)
    replace B := hide (Below.then_ B.out hb)
    replace R1 := hide (R1.out.then_ hb)
    have hO' := hide (hO.congr (mf := fun i => decide (i < 0)) (fun _ _ => rfl) (fun _ _ => rfl) (fun i _ h => by simp at h))
    generalize w1.heap.size = g at *
    clear hb hO
    go_wp2
    go_loopw [53] (fun i wr => ∃ (j : Nat) (Z : Nat → Rc) (z : Nat → Rat), j ≤ l ∧ i = .int .i64 j ∧ Hid (OwnQ (fun i => decide (i < j)) wr w.heap.size 1000000 (.slice (some ⟨g, 0, none⟩) l l) l Z z) ∧ Hid (∀ i, i < j → z i = hyp T M D i) ∧ Hid (Nn wr wr.heap.size x1 (ch T D)) ∧ Hid (Below w.heap.size w wr)) (fun i _ => l - (intOf i).toNat)
    case atStart => exact ⟨0, _, _, Nat.zero_le _, rfl, hO', hide fun i hi => by omega, R1, B⟩
    case round =>
      obtain ⟨j, Z, z, hj, rfl, hZ, hz, Ra, B2⟩ := hrel
      clear hO' R1 B
      by_cases hjl : j < l
      · have hj64 : (j : Int) < (l : Int) := by omega
        have hjm : j ≤ mn := by have := hlh.out; omega
        go_wp2_with fail
        refine (choose_c (N := M) (K := j) rfl rfl (by omega) (by omega)).mono ?_
        rintro e w3 ⟨x3, rfl, R3, hb⟩
        replace hZ := hide (hZ.out.then_ hb)
        replace Ra := hide (Ra.out.then_ hb)
        replace B2 := hide (Below.then_ B2.out hb)
        replace R3 := hide R3
        clear hb
        go_wp2_with fail
        refine (choose_c (N := T - M) (K := D - j) (by omega) (by omega) (by omega) (by omega)).mono ?_
        rintro e w4 ⟨x4, rfl, R4, hb⟩
        replace hZ := hide (hZ.out.then_ hb)
        replace Ra := hide (Ra.out.then_ hb)
        replace R3 := hide (R3.out.then_ hb)
        replace B2 := hide (Below.then_ B2.out hb)
        replace R4 := hide R4
        clear hb
        go_wp2_with fail
        refine (mul_z (R3.out.nz (ch_sm (by omega)).lg) (R4.out.nz (ch_sm (by omega)).lg) (Nat.le_refl _) rfl).mono ?_
        rintro e w5 ⟨x5, rfl, R5, hb⟩
        replace hZ := hide (hZ.out.then_ hb)
        replace Ra := hide (Ra.out.then_ hb)
        replace B2 := hide (Below.then_ B2.out hb)
        replace R5 := hide R5
        clear hb R3 R4
        have hsm := hide (ch_mul_sm (a := M) (b := j) (c := T - M) (d := D - j) (by omega) (by omega))
        go_wp2_with fail
        refine (fraction_q (K := 1000000) (R5.out.nz hsm.out.lg) (Ra.out.nz (ch_sm (by omega)).lg) (Nat.le_refl _) hpos.out hsm.out (ch_sm (by omega)) (by omega) hyp_divInt).mono ?_
        rintro e w6 ⟨x6, rfl, R6, hb⟩
        have hZ6 := hZ.out.then_ hb
        obtain ⟨G0, G1, G2, G3, G4⟩ := hZ6.all hjl
        have G30 := G3 (j * 3) w6 (Below.refl _ _)
        have G31 := G3 (j * 3 + 1) w6 (Below.refl _ _)
        have G32 := G3 (j * 3 + 2) w6 (Below.refl _ _)
        replace G0 := G0 w6 (Below.refl _ _)
        replace G1 := G1 w6 (Below.refl _ _)
        replace G2 := G2 w6 (Below.refl _ _)
        replace G4 := G4 w6 (Below.refl _ _)
        have hS := hide (hZ6.set hjl (Pq.of_nq (nf := true) R6))
        have hgr := set3_grown w6 g j x6
        have B5 := hide (hZ6.below hgr (Below.then_ B2.out hb) (Below.then_ B2.out hb).size)
        have Ra2 := hide ((Ra.out.then_ hb).grownQ hZ6.noU hgr)
        have hz2 := hide (show ∀ i, i < j + 1 → upd z j (hyp T M D j) i = hyp T M D i from fun i hi => by
          by_cases e : i = j
          · rw [e, upd_same]
          · rw [upd_ne e]; exact hz.out i (by omega))
        have hS2 := hide (hS.out.congr (mf := fun i => decide (i < j + 1)) (fun _ _ => rfl) (fun _ _ => rfl) (fun i _ h => by
          unfold upd
          split
          · rfl
          · simp at h ⊢; omega))
        clear hb hZ6 hZ R5 R6 Ra B2 hz hS G3 hgr
        go_wp2
        go_roundw
        case rel => exact ⟨j + 1, _, _, by omega, by go_num, hS2, hz2, Ra2, B5⟩
        case measure => simp [intOf]; omega
      · obtain rfl : j = l := by omega
        have hfin := hide (hZ.out.congr (mf := fun _ => true) (fun _ _ => rfl) (fun _ _ => rfl) (fun i hi _ => by simpa using hi))
        obtain ⟨A6, c6, e6, hR6⟩ := hfin.out.rd
        simp only [Value.slice.injEq, true_and] at e6
        obtain ⟨rfl, rfl⟩ := e6
        replace hR6 := hide hR6
        go_wp2
        go_ret2
        exact ⟨_, _, Z, z, rfl, hR6.out, hz.out, B2.out⟩
  · have hk2 := hk.symm.trans (if_neg (by simp [hin]))
    simp only [Prod.mk.injEq] at hk2
    obtain ⟨rfl, rfl⟩ := hk2
    have e0 : decide (t < 0) = true ∨ (decide (t < 0) = false ∧ decide ((120 : Int) < t) = true) ∨ (decide (t < 0) = false ∧ decide ((120 : Int) < t) = false ∧ decide (m < 0) = true) ∨ (decide (t < 0) = false ∧ decide ((120 : Int) < t) = false ∧ decide (m < 0) = false ∧ decide (t < m) = true) ∨ (decide (t < 0) = false ∧ decide ((120 : Int) < t) = false ∧ decide (m < 0) = false ∧ decide (t < m) = false ∧ decide (d < 0) = true) ∨ (decide (t < 0) = false ∧ decide ((120 : Int) < t) = false ∧ decide (m < 0) = false ∧ decide (t < m) = false ∧ decide (d < 0) = false ∧ decide (t < d) = true) := by
      unfold HyOk at hin
      simp
      omega
    clear hin hk
    rcases e0 with e0 | ⟨e0, e1⟩ | ⟨e0, e1, e2⟩ | ⟨e0, e1, e2, e3⟩ | ⟨e0, e1, e2, e3, e4⟩ | ⟨e0, e1, e2, e3, e4, e5⟩
    all_goals
      go_enter Try.func40, Try.ntmps40
      go_wp2
      go_ret2
      exact le_nil B.out
end

section
open Go.RowKit

theorem pq_pow {p : Rat} {a D : Nat} (h : (a : Rat) = p * (D : Rat)) : ∀ k, ((a ^ k : Nat) : Rat) = pq p k * ((D ^ k : Nat) : Rat)
  | 0 => by simp [pq]
  | k + 1 => by
    rw [Nat.pow_succ, Nat.pow_succ, Rat.natCast_mul, Rat.natCast_mul, pq_pow h k, h, pq]
    grind
theorem bin_nat {p : Rat} {a f D n k : Nat} (ha : (a : Rat) = p * (D : Rat)) (hf : (f : Rat) = (1 - p) * (D : Rat)) (hk : k ≤ n) : ((ch n k * (a ^ k * f ^ (n - k)) : Nat) : Rat) = bin n p k * ((D ^ n : Nat) : Rat) := by
  have e : D ^ n = D ^ k * D ^ (n - k) := by rw [← Nat.pow_add, show k + (n - k) = n by omega]
  rw [e, Rat.natCast_mul, Rat.natCast_mul, Rat.natCast_mul, pq_pow ha k, pq_pow hf (n - k), bin]
  grind
theorem bin_le {p : Rat} (h0 : 0 ≤ p) (h1 : p ≤ 1) (n k : Nat) : bin n p k ≤ 1 := by
  rw [← bin_trl]
  exact trl_le_one (fun q hq => by rw [List.eq_of_mem_replicate hq]; exact ⟨h0, h1⟩) k
/-- the parts of an element, in lowest terms -/
theorem bin_step {p : Rat} (h0 : 0 ≤ p) (h1 : p ≤ 1) {n k C : Nat} (hk : k ≤ n) (hC : ch n k = C) {x : Rat} (hx : Rat.divInt (C : Int) ((p.den ^ n : Nat) : Int) = x) :
    Nat.gcd (zmag x.num * (zmag p.num ^ k * (p.den - zmag p.num) ^ (n - k))) x.den = 1 ∧ Rat.divInt ((zmag x.num * (zmag p.num ^ k * (p.den - zmag p.num) ^ (n - k)) : Nat) : Int) (x.den : Int) = bin n p k ∧ zneg x.num = false ∧
      zmag x.num * (zmag p.num ^ k * (p.den - zmag p.num) ^ (n - k)) ≤ x.den ∧ x.den ≤ p.den ^ n := by
  have hD : p.den ^ n ≠ 0 := Nat.pos_iff_ne_zero.1 (Nat.pow_pos p.den_pos)
  obtain ⟨x1, x2⟩ := divInt_nn C hD
  rw [hx] at x1 x2
  have hxn : zmag x.num = C / Nat.gcd C (p.den ^ n) := by rw [x1, zmag_nat]
  have hle := share_num h0 h1
  have ca : Nat.Coprime (zmag p.num) p.den := p.reduced
  have cf : Nat.Coprime (p.den - zmag p.num) p.den := by
    have e1 : Nat.gcd (p.den - zmag p.num) ((p.den - zmag p.num) + zmag p.num) = Nat.gcd (p.den - zmag p.num) (zmag p.num) := Nat.gcd_self_add_right _ _
    rw [Nat.sub_add_cancel hle, Nat.gcd_sub_self_left hle] at e1
    exact e1.trans ((Nat.gcd_comm _ _).trans ca)
  have co : Nat.Coprime (zmag p.num ^ k * (p.den - zmag p.num) ^ (n - k)) (p.den ^ n) := Nat.Coprime.mul_left (Nat.Coprime.pow k n ca) (Nat.Coprime.pow (n - k) n cf)
  have hdv : x.den ∣ p.den ^ n := by rw [x2]; exact Nat.div_dvd_of_dvd (Nat.gcd_dvd_right _ _)
  have co2 := Nat.Coprime.coprime_dvd_right hdv co
  have cx : Nat.Coprime (zmag x.num) x.den := x.reduced
  obtain ⟨e1, e2⟩ := chance_rat h0 h1
  have hb := bin_nat (n := n) (k := k) e1 e2 hk
  rw [hC] at hb
  have m1 := divInt_mul_nn C hD
  rw [hx] at m1
  have m2 := mul_den x
  rw [show (x.num : Rat) = ((zmag x.num : Nat) : Rat) by rw [x1, zmag_nat, Rat.intCast_natCast]] at m2
  have hv : ((zmag x.num * (zmag p.num ^ k * (p.den - zmag p.num) ^ (n - k)) : Nat) : Rat) = bin n p k * (x.den : Rat) := by
    rw [Rat.natCast_mul] at hb ⊢
    have z1 := natCast_ne hD
    generalize ((zmag p.num ^ k * (p.den - zmag p.num) ^ (n - k) : Nat) : Rat) = o at *
    generalize ((p.den ^ n : Nat) : Rat) = u at *
    generalize (C : Rat) = c at *
    generalize ((zmag x.num : Nat) : Rat) = b at *
    generalize (x.den : Rat) = d at *
    generalize bin n p k = v at *
    grind
  refine ⟨Nat.Coprime.mul_left cx co2, divInt_of x.den_nz hv, by rw [x1]; exact zneg_nat _, ?_, Nat.le_of_dvd (Nat.pos_of_ne_zero hD) hdv⟩
  have h2 := Rat.mul_le_mul_of_nonneg_right (bin_le h0 h1 n k) (Rat.natCast_nonneg (a := x.den))
  rw [← hv, Rat.one_mul] at h2
  exact Rat.natCast_le_natCast.1 h2
/-- a store into one cell of element k -/
theorem OwnQ.setNum {nf : Nat → Bool} {w : World} {B L n c g k : Nat} {X : Nat → Rc} {q : Nat → Rat} (h : OwnQ nf w B L (.slice (some ⟨g, 0, none⟩) n c) n X q) (hk : k < n) {y : Nc} {r : Rat} {b : Bool} (hx : Pq b w w.heap.size L ⟨(X k).s, y.A, y.n, y.c, (X k).B, (X k).m, (X k).d⟩ r) :
    OwnQ (upd nf k b) (w.setCell ⟨g, k * 3 + 1, none⟩ (.slice y.A y.n y.c)) B L (.slice (some ⟨g, 0, none⟩) n c) n (upd X k ⟨(X k).s, y.A, y.n, y.c, (X k).B, (X k).m, (X k).d⟩) (upd q k r) ∧ w.grownBy (w.setCell ⟨g, k * 3 + 1, none⟩ (.slice y.A y.n y.c)) (some g) := by
  have hg : w.grownBy (w.setCell ⟨g, k * 3 + 1, none⟩ (.slice y.A y.n y.c)) (some g) :=
    have h : Below 0 w (w.setCell ⟨g, k * 3 + 1, none⟩ (.slice y.A y.n y.c)) := (Below.refl 0 w).setCell (Nat.zero_le _) _
    ⟨h.os, h.tape, h.output, h.size, fun j _ hj => Below.heap_setCell _ _ _ _ fun e => hj (by rw [e])⟩
  refine ⟨?_, hg⟩
  obtain ⟨cur, h0, hc⟩ := h.2.1 g rfl
  have hw : (w.setCell ⟨g, k * 3 + 1, none⟩ (.slice y.A y.n y.c)).heap[g]? = some (.cells (cur.setIfInBounds (k * 3 + 1) (.slice y.A y.n y.c)) 27 (0, 0)) := heap_setCell_same w g _ _ _ _ h0
  have hcl : cellsQ (upd X k ⟨(X k).s, y.A, y.n, y.c, (X k).B, (X k).m, (X k).d⟩) n = (cellsQ X n).set (k * 3 + 1) (.slice y.A y.n y.c) := by
    obtain ⟨c0, c1, c2⟩ := cellsQ_at X hk
    rw [cellsQ_upd hk]
    refine List.ext_getElem? fun j => ?_
    have hl := cellsQ_length X n
    by_cases e2 : j = k * 3 + 2
    · subst e2
      rw [List.getElem?_set_self (by simp; omega), List.getElem?_set_ne (by omega), c2]
    · rw [List.getElem?_set_ne (by omega)]
      by_cases e1 : j = k * 3 + 1
      · subst e1
        rw [List.getElem?_set_self (by simp; omega), List.getElem?_set_self (by omega)]
      · by_cases e0 : j = k * 3
        · subst e0
          rw [List.getElem?_set_ne (i := k * 3 + 1) (by omega), List.getElem?_set_ne (i := k * 3 + 1) (by omega), List.getElem?_set_self (by omega), c0]
        · rw [List.getElem?_set_ne (i := k * 3 + 1) (by omega), List.getElem?_set_ne (i := k * 3 + 1) (by omega), List.getElem?_set_ne (by omega)]
  refine ⟨⟨cellsQ_length _ _, ?_⟩, fun g' hg' => ?_, fun i hi => ?_⟩
  · rcases h.1.2 with ⟨h, _⟩ | ⟨g', cap, cur', hv, hB, hgg, q1, q2, q3, q4⟩
    · simp at h
    · simp only [Value.slice.injEq, Option.some.injEq, Addr.mk.injEq, and_true, true_and] at hv
      obtain ⟨rfl, rfl⟩ := hv
      rw [h0] at hgg
      simp only [Option.some.injEq, Obj.cells.injEq, and_true] at hgg
      subst hgg
      refine .inr ⟨g, c, _, rfl, hB, hw, q1, q2, by simpa using q3, ?_⟩
      simp only [Array.toList_setIfInBounds]
      rw [hcl, List.take_set, q4]
  · simp only [Value.ownBlock, Option.some.injEq] at hg'
    subst hg'
    refine ⟨_, hw, fun j u hu => ?_⟩
    rw [Array.getElem?_setIfInBounds] at hu
    split at hu
    · split at hu
      · simp only [Option.some.injEq] at hu; subst hu; exact fun x e => by cases e
      · cases hu
    exact hc _ _ hu
  · by_cases e : i = k
    · subst e
      rw [upd_same, upd_same, upd_same]
      exact hx.grownQ h.noU hg
    · rw [upd_ne e, upd_ne e, upd_ne e]
      exact (h.2.2 i hi).grownQ h.noU hg
/-- Binomial's error and length -/
noncomputable def biK (n : Int) (q : Rat) : Int × Nat := if shB q = true then (if 0 ≤ n ∧ n ≤ 120 then (0, n.toNat + 1) else (3, 0)) else (1, 0)
theorem pow_pw {x n j M : Nat} (h : x < pw n) (hM : j * n + 1 ≤ M) : x ^ j < pw M := pw_le hM ((dig_len_le _ _).1 (pow_len h j))
set_option maxHeartbeats 16000000 in
set_option maxRecDepth 100000 in
theorem binom_p {w : World} {Bd : Nat} {x : Rc} {q : Rat} {n : Int} (h : Rq w Bd 1048576 x q) (hB : Bd ≤ w.heap.size) {k : Int} {N : Nat} (hk : biK n q = (k, N)) :
    Calls Try.prog 12 #[.int .i64 n, .agg #[.bool x.s, .slice x.A x.n x.c, .slice x.B x.m x.d]] w (RetLE w 126000000 N (bin n.toNat q) k) := by
  obtain ⟨W, hW⟩ : ∃ W, W = (w.alloc (.cells #[.bool x.s, .slice x.A x.n x.c, .slice x.B x.m x.d] 27)) := ⟨_, rfl⟩
  have b_p : Box3 W (w.heap.size) (.bool x.s) (.slice x.A x.n x.c) (.slice x.B x.m x.d) := by rw [hW]; exact (Box3.new w _ _ _ rfl)
  have hwW : Below w.heap.size w W := by rw [hW]; exact ((Below.refl _ _).alloc (Nat.le_refl _) _)
  have U0 : Below W.heap.size W W := Below.refl _ _
  have c_p0 := b_p.at0 b_p.lt_size (Nat.le_refl _)
  have c_p1 := b_p.at1 b_p.lt_size (Nat.le_refl _)
  have c_p2 := b_p.at2 b_p.lt_size (Nat.le_refl _)
  have l_p := b_p.lt b_p.lt_size (Nat.le_refl _)
  have f_p2 := b_p.free2 b_p.lt_size (Nat.le_refl _)
  have f_p1 := b_p.free1 b_p.lt_size (Nat.le_refl _)
  have f_p0 := b_p.free0 b_p.lt_size (Nat.le_refl _)
  clear b_p
  have RP := hide (h.upto hwW hB)
  have B := hide hwW
  have hkh := hide hk
  obtain ⟨sb, hsb⟩ : ∃ b, shB q = b := ⟨_, rfl⟩
  have hsbh := hide hsb
  clear h hwW hB
  cases sb with
  | false =>
    have hk2 : (k, N) = ((1 : Int), (0 : Nat)) := by rw [← hk]; exact if_neg (by rw [hsb]; decide)
    obtain ⟨rfl, rfl⟩ := Prod.mk.inj hk2
    clear hk hk2 hsb
    go_enter Try.func12, Try.ntmps12
    go_wp2_with fail
    rw [← hW]
    clear hW
    refine (isprob_q RP.out (by omega) (Nat.le_refl _) hsbh.out).mono ?_
    rintro e w1 ⟨rfl, hb⟩
    replace B := hide (Below.then_ B.out hb)
    clear hb
    go_wp2
    go_ret2
    exact le_nil B.out
  | true =>
    have hs01 : 0 ≤ q ∧ q ≤ 1 := by simpa [shB] using hsb
    by_cases hn : 0 ≤ n ∧ n ≤ 120
    · have hk2 : (k, N) = ((0 : Int), n.toNat + 1) := by rw [← hk]; exact (if_pos hsb).trans (if_pos hn)
      obtain ⟨rfl, rfl⟩ := Prod.mk.inj hk2
      obtain ⟨M, rfl⟩ : ∃ M : Nat, n = (M : Int) := ⟨n.toNat, by omega⟩
      rw [Int.toNat_natCast]
      have hM : M ≤ 120 := by omega
      obtain ⟨l, hl⟩ : ∃ l, l = M + 1 := ⟨_, rfl⟩
      rw [← hl]
      have hl64 : (M : Int) + 1 = (l : Int) := by omega
      have d0 : decide ((M : Int) < 0) = false := by simp
      have d1 : decide ((120 : Int) < (M : Int)) = false := by simp; omega
      have hs01h := hide hs01
      have hlh := hide hl
      obtain ⟨a, ha⟩ : ∃ a, a = zmag q.num := ⟨_, rfl⟩
      obtain ⟨D, hD⟩ : ∃ D, D = q.den := ⟨_, rfl⟩
      have hah := hide ha
      have hDh := hide hD
      have hqs := hide (show zmag q.num < pw 1048577 ∧ q.den < pw 1048577 by
        obtain ⟨xs, ys, h1, h2, h3, h4, h5⟩ := RP.out
        have z := sz_rd h1 h2 h5 (i := 1048576) h3 h4
        exact ⟨(dig_len_le _ _).1 z.1, (dig_len_le _ _).1 z.2⟩)
      rw [← ha, ← hD] at hqs
      have hle := hide (show a ≤ D by rw [ha, hD]; exact share_num hs01.1 hs01.2)
      clear hk hk2 hn hsb hs01 ha hD hl
      go_enter Try.func12, Try.ntmps12
      go_wp2_with fail
      rw [← hW]
      clear hW
      refine (isprob_q RP.out (by omega) (Nat.le_refl _) hsbh.out).mono ?_
      rintro e w1 ⟨rfl, hb⟩
      have U1 : Below W.heap.size W w1 := Below.then_ U0 hb
      replace B := hide (Below.then_ B.out hb)
      replace RP := hide (RP.out.then_ hb)
      clear hb
      go_wp2_with fail
      refine (chances_q RP.out (by omega) (Nat.le_refl _) hs01h.out.1 hs01h.out.2 (a := a) (c := D) hah.out.symm rfl hDh.out.symm).mono ?_
      rintro e w2 ⟨x5, y5, z5, rfl, R5, R6, R7, hb⟩
      replace B := hide (Below.then_ B.out hb)
      replace R5 := hide R5
      replace R6 := hide R6
      replace R7 := hide R7
      have hpl := hide (show ∀ k, k ≤ 120 → D ^ k < pw 126000000 from fun k hk => pow_pw hqs.out.2 (by omega))
      have hal := hide (show ∀ k, k ≤ 120 → a ^ k < pw 126000000 from fun k hk => pow_pw hqs.out.1 (by omega))
      have hfl := hide (show ∀ k, k ≤ 120 → (D - a) ^ k < pw 126000000 from fun k hk => pow_pw (Nat.lt_of_le_of_lt (Nat.sub_le _ _) hqs.out.2) (by omega))
      have hlg := hide (show Lg a ∧ Lg (D - a) ∧ Lg D from ⟨Lg.pw hqs.out.1 (by omega), Lg.pw (Nat.lt_of_le_of_lt (Nat.sub_le _ _) hqs.out.2) (by omega), Lg.pw hqs.out.2 (by omega)⟩)
      clear hb RP U1 U0 c_p0 c_p1 c_p2 l_p f_p0 f_p1 f_p2
      go_wp2_with fail
      refine (power_z (R7.out.nz hlg.out.2.2) (Nat.le_refl _) (k := M) rfl (by omega) rfl).mono ?_
      rintro e w3 ⟨x8, rfl, R8, hb⟩
      replace B := hide (Below.then_ B.out hb)
      replace R5 := hide (R5.out.then_ hb)
      replace R6 := hide (R6.out.then_ hb)
      replace R8 := hide R8
      clear hb R7
      go_wp2_with (at_make; refine wpList_make_rats rfl _ _ rfl _ _ _ _ l rfl rfl rfl rfl (by have := hlh.out; omega) w.heap.size 126000000 B.out.size ?_; intro w4 hO hb)
      replace B := hide (Below.then_ B.out hb)
      replace R5 := hide (R5.out.then_ hb)
      replace R6 := hide (R6.out.then_ hb)
      replace R8 := hide (R8.out.then_ hb)
      have hO' := hide (hO.congr (mf := fun i => decide (i < 0)) (fun _ _ => rfl) (fun _ _ => rfl) (fun i _ h => by simp at h))
      generalize w3.heap.size = g at *
      clear hb hO
      go_wp2
      go_loopw [40] (fun i wr => ∃ (j : Nat) (Z : Nat → Rc) (z : Nat → Rat), j ≤ l ∧ i = .int .i64 j ∧ Hid (OwnQ (fun i => decide (i < j)) wr w.heap.size 126000000 (.slice (some ⟨g, 0, none⟩) l l) l Z z) ∧ Hid (∀ i, i < j → z i = bin M q i) ∧ Hid (Nn wr wr.heap.size x5 a) ∧ Hid (Nn wr wr.heap.size y5 (D - a)) ∧ Hid (Nn wr wr.heap.size x8 (D ^ M)) ∧ Hid (Below w.heap.size w wr)) (fun i _ => l - (intOf i).toNat)
      case atStart => exact ⟨0, _, _, Nat.zero_le _, rfl, hO', hide fun i hi => by omega, R5, R6, R8, B⟩
      case round =>
        obtain ⟨j, Z, z, hj, rfl, hZ, hz, Ra, Rf, Rw, B2⟩ := hrel
        clear hO' R5 R6 R8 B
        by_cases hjl : j < l
        · have hj64 : (j : Int) < (l : Int) := by omega
          have hjM : j ≤ M := by have := hlh.out; omega
          go_wp2_with fail
          refine (choose_c (N := M) (K := j) rfl rfl (by omega) (by omega)).mono ?_
          rintro e w5 ⟨x9, rfl, R9, hb⟩
          replace hZ := hide (hZ.out.then_ hb)
          replace Ra := hide (Ra.out.then_ hb)
          replace Rf := hide (Rf.out.then_ hb)
          replace Rw := hide (Rw.out.then_ hb)
          replace B2 := hide (Below.then_ B2.out hb)
          replace R9 := hide R9
          clear hb
          obtain ⟨C, hC⟩ : ∃ C, ch M j = C := ⟨_, rfl⟩
          have hCs := hide (ch_sm (n := M) (k := j) (by omega))
          rw [hC] at R9 hCs
          have hDM := hide (hpl.out M hM)
          have hDM0 := hide (show D ^ M ≠ 0 from Nat.pos_iff_ne_zero.1 (Nat.pow_pos (by rw [hDh.out]; exact q.den_pos)))
          obtain ⟨v, hv⟩ : ∃ v, Rat.divInt (C : Int) ((D ^ M : Nat) : Int) = v := ⟨_, rfl⟩
          have hvh := hide hv
          have hst := hide (bin_step hs01h.out.1 hs01h.out.2 hjM hC (x := v) (by rw [← hDh.out]; exact hv))
          rw [← hah.out, ← hDh.out] at hst
          clear hC hv
          go_wp2_with fail
          refine (fraction_q (K := 126000000) (R9.out.nz hCs.out.lg) (Rw.out.nz (Lg.pw hDM.out (by omega))) (Nat.le_refl _) hDM0.out (pw_le (by omega) hCs.out) hDM.out (by omega) hvh.out).mono ?_
          rintro e w6 ⟨x6, rfl, R6, hb⟩
          have hZ6 := hZ.out.then_ hb
          obtain ⟨G0, G1, G2, G3, G4⟩ := hZ6.all hjl
          have G30 := G3 (j * 3) w6 (Below.refl _ _)
          have G31 := G3 (j * 3 + 1) w6 (Below.refl _ _)
          have G32 := G3 (j * 3 + 2) w6 (Below.refl _ _)
          replace G0 := G0 w6 (Below.refl _ _)
          replace G1 := G1 w6 (Below.refl _ _)
          replace G2 := G2 w6 (Below.refl _ _)
          replace G4 := G4 w6 (Below.refl _ _)
          have hgr := set3_grown w6 g j x6
          have hS := hide (hZ6.set hjl (Pq.of_nq (nf := true) R6))
          have B6 := hide (hZ6.below hgr (Below.then_ B2.out hb) (Below.then_ B2.out hb).size)
          have R6' := hide (R6.grownQ hZ6.noU hgr)
          replace Ra := hide ((Ra.out.then_ hb).grownQ hZ6.noU hgr)
          replace Rf := hide ((Rf.out.then_ hb).grownQ hZ6.noU hgr)
          replace Rw := hide ((Rw.out.then_ hb).grownQ hZ6.noU hgr)
          clear hb hZ6 hZ R9 R6 B2 G3 hgr
          go_wp2_with fail
          obtain ⟨V, hV⟩ : ∃ V, V = set3 w6 g j x6 := ⟨_, rfl⟩
          rw [← hV] at hS B6 R6' Ra Rf Rw
          have hV' := hV
          unfold set3 at hV'
          rw [← hV']
          clear hV hV' G0 G1 G2 G4 G30 G31 G32
          refine (power_z (Ra.out.nz hlg.out.1) (Nat.le_refl _) (k := j) rfl (by omega) rfl).mono ?_
          rintro e w7 ⟨x7, rfl, R7, hb⟩
          replace hS := hide (hS.out.then_ hb)
          replace R6' := hide (R6'.out.then_ hb)
          replace Ra := hide (Ra.out.then_ hb)
          replace Rf := hide (Rf.out.then_ hb)
          replace Rw := hide (Rw.out.then_ hb)
          replace B6 := hide (Below.then_ B6.out hb)
          replace R7 := hide R7
          clear hb
          go_wp2_with fail
          refine (power_z (Rf.out.nz hlg.out.2.1) (Nat.le_refl _) (k := M - j) (by omega) (by omega) rfl).mono ?_
          rintro e w8 ⟨x10, rfl, R10, hb⟩
          replace hS := hide (hS.out.then_ hb)
          replace R6' := hide (R6'.out.then_ hb)
          replace Ra := hide (Ra.out.then_ hb)
          replace Rf := hide (Rf.out.then_ hb)
          replace Rw := hide (Rw.out.then_ hb)
          replace R7 := hide (R7.out.then_ hb)
          replace B6 := hide (Below.then_ B6.out hb)
          replace R10 := hide R10
          clear hb
          go_wp2_with fail
          refine (mul_z (R7.out.nz (Lg.pw (hal.out j (by omega)) (by omega))) (R10.out.nz (Lg.pw (hfl.out (M - j) (by omega)) (by omega))) (Nat.le_refl _) rfl).mono ?_
          rintro e w9 ⟨x11, rfl, R11, hb⟩
          replace hS := hide (hS.out.then_ hb)
          replace R6' := hide (R6'.out.then_ hb)
          replace Ra := hide (Ra.out.then_ hb)
          replace Rf := hide (Rf.out.then_ hb)
          replace Rw := hide (Rw.out.then_ hb)
          replace B6 := hide (Below.then_ B6.out hb)
          replace R11 := hide R11
          have hol := hide (show Lg (a ^ j * (D - a) ^ (M - j)) from Lg.pw (k := 126000000 + 126000000) (by rw [pw_add]; exact Nat.mul_lt_mul'' (hal.out j (by omega)) (hfl.out (M - j) (by omega))) (by omega))
          obtain ⟨_, G1, _, _, _⟩ := hS.out.all hjl
          rw [upd_same] at G1
          replace G1 := G1 w9 (Below.refl _ _)
          have hnl := hide (R6'.out.lt)
          clear hb R7 R10
          go_wp2_with fail
          refine (mul_z (x := ⟨x6.A, x6.n, x6.c⟩) (R6'.out.num.nz (Lg.pw hnl.out.1 (by omega))) (R11.out.nz hol.out) (Nat.le_refl _) rfl).mono ?_
          rintro e w10 ⟨x12, rfl, R12, hb⟩
          have hS10 := hS.out.then_ hb
          obtain ⟨_, G1', _, G3, G4⟩ := hS10.all hjl
          rw [upd_same] at G1'
          replace G1' := G1' w10 (Below.refl _ _)
          replace G3 := G3 (j * 3 + 1) w10 (Below.refl _ _)
          replace G4 := G4 w10 (Below.refl _ _)
          have hNq := hide (show Nq w10 w10.heap.size 126000000 ⟨(upd Z j x6 j).s, x12.A, x12.n, x12.c, (upd Z j x6 j).B, (upd Z j x6 j).m, (upd Z j x6 j).d⟩ (bin M q j) by
            rw [upd_same]
            have h1 := Nq.mk (L := 126000000) R12 (R6'.out.den.then_ hb) v.den_nz hst.out.1 (Nat.lt_of_le_of_lt (Nat.le_trans hst.out.2.2.2.1 hst.out.2.2.2.2) hDM.out) (Nat.lt_of_le_of_lt hst.out.2.2.2.2 hDM.out) hst.out.2.1
            have h2 : x6.s = false := by rw [R6'.out.1]; exact hst.out.2.2.1
            rw [h2]
            exact h1)
          obtain ⟨hS11, hgr⟩ := hS10.setNum hjl (Pq.of_nq (nf := true) hNq.out)
          simp only [upd_upd] at hS11
          have hS12 := hide (hS11.congr (mf := fun i => decide (i < j + 1)) (fun _ _ => rfl) (fun _ _ => rfl) (fun i _ h => by
            unfold upd
            split
            · rfl
            · simp at h ⊢
              omega))
          have B7 := hide (hS10.below hgr (Below.then_ B6.out hb) (Below.then_ B6.out hb).size)
          have Ra2 := hide ((Ra.out.then_ hb).grownQ hS10.noU hgr)
          have Rf2 := hide ((Rf.out.then_ hb).grownQ hS10.noU hgr)
          have Rw2 := hide ((Rw.out.then_ hb).grownQ hS10.noU hgr)
          have hz2 := hide (show ∀ i, i < j + 1 → upd z j (bin M q j) i = bin M q i from fun i hi => by
            by_cases e : i = j
            · rw [e, upd_same]
            · rw [upd_ne e]; exact hz.out i (by omega))
          clear hb hS10 hS hS11 hgr hNq R12 R11 R6' Ra Rf Rw B6 hz G1
          go_wp2
          go_roundw
          case rel => exact ⟨j + 1, _, _, by omega, by go_num, hS12, hz2, Ra2, Rf2, Rw2, B7⟩
          case measure => simp [intOf]; omega
        · obtain rfl : j = l := by omega
          have hfin := hide (hZ.out.congr (mf := fun _ => true) (fun _ _ => rfl) (fun _ _ => rfl) (fun i hi _ => by simpa using hi))
          obtain ⟨A6, c6, e6, hR6⟩ := hfin.out.rd
          simp only [Value.slice.injEq, true_and] at e6
          obtain ⟨rfl, rfl⟩ := e6
          replace hR6 := hide hR6
          go_wp2
          go_ret2
          exact ⟨_, _, Z, z, rfl, hR6.out, hz.out, B2.out⟩
    · have hk2 : (k, N) = ((3 : Int), (0 : Nat)) := by rw [← hk]; exact (if_pos hsb).trans (if_neg hn)
      obtain ⟨rfl, rfl⟩ := Prod.mk.inj hk2
      have e0 : decide (n < 0) = true ∨ (decide (n < 0) = false ∧ decide ((120 : Int) < n) = true) := by simp; omega
      clear hk hk2 hn hsb hs01
      rcases e0 with e0 | ⟨e0, e1⟩
      all_goals
        go_enter Try.func12, Try.ntmps12
        go_wp2_with fail
        rw [← hW]
        clear hW
        refine (isprob_q RP.out (by omega) (Nat.le_refl _) hsbh.out).mono ?_
        rintro e w1 ⟨rfl, hb⟩
        replace B := hide (Below.then_ B.out hb)
        clear hb
        go_wp2
        go_ret2
        exact le_nil B.out
end
end Go.Proofs.Ytdihgmbldnekhaa
