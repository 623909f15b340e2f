/-
  ExS, ExT, ExU.
-/
import Derived.Test.YtdihgmbldnekhaaExPA
import Derived.Deep.RegionWith
namespace Go.Proofs.Ytdihgmbldnekhaa
section
open Go.RowKit

/-- the parts and the whole were handed back, or what nobody reads, beside false -/
def RetCm (w : World) (n K : Nat) (q : Nat → Rat) (b : Bool) (e : Ending) (w' : World) : Prop :=
  ∃ (A : Option Addr) (m c : Nat) (y : Nc), e = .returned (.tuple #[.slice A m c, .slice y.A y.n y.c, .bool b]) ∧ Below w.heap.size w w' ∧
    (b = true → ∃ (X : Nat → Nc) (P : Nat → Nat) (W : Nat), m = n ∧ LN w' w'.heap.size A n c X P ∧ Nn w' w'.heap.size y W ∧ W ≠ 0 ∧ W < pw K ∧ ∀ i, i < n → (P i : Rat) = q i * (W : Rat))
theorem cm_no {w w' : World} {n K m c : Nat} {A : Option Addr} {y : Nc} {q : Nat → Rat} (B : Below w.heap.size w w') : RetCm w n K q false (.returned (.tuple #[.slice A m c, .slice y.A y.n y.c, .bool false])) w' := ⟨A, m, c, y, rfl, B, fun h => by cases h⟩
theorem sgn_cases (z : Int) : sgn z = -1 ∨ sgn z = 0 ∨ sgn z = 1 := by
  unfold sgn
  rcases Int.lt_trichotomy z 0 with h | h | h
  · exact .inl (Int.sign_eq_neg_one_of_neg h)
  · exact .inr (.inl (by rw [h]; rfl))
  · exact .inr (.inr (Int.sign_eq_one_of_pos h))
theorem sgnq_pos {q : Rat} : 0 < sgn q.num ↔ 0 < q := by
  have h := cmp_gt (p := q) (q := 0)
  rw [show q - 0 = q by grind] at h
  exact h
set_option maxHeartbeats 8000000 in
set_option maxRecDepth 100000 in
theorem common_q {nf : Nat → Bool} {w : World} {Bd n c L K : Nat} {A : Option Addr} {X : Nat → Rc} {q : Nat → Rat} {nu dn : Nat → Nat} (hx : LQ nf w Bd L A n c X q) (gL : L ≤ 400000000) (hB : Bd ≤ w.heap.size)
    (hp : PN w Bd n X nu dn) (hq : ∀ i, i < n → qv (X i).s (nu i) (dn i) = q i) (hnu : ∀ i, i < n → nu i < pw K) (hK : K ≤ 400000000) (hW : lcw q dn n < pw K) {b : Bool} (hb : vlB n q = b) :
    Calls Try.prog 56 #[.slice A n c] w (RetCm w n K q b) := by
  have hcap := hx.cap
  have hcb := hx.cbig
  have HX := hide (hx.upto (Below.refl _ _) hB)
  have HP := hide (hp.upto (Below.refl _ _) hB)
  have B := hide (Below.refl w.heap.size w)
  have hbh := hide hb
  have hqh := hide hq
  have hnuh := hide hnu
  have hWh := hide hW
  have hdn := hide (show ∀ i, i < n → 0 < q i → dn i ≠ 0 from fun i hi h0 h => by
    have e := hq i hi
    rw [h, qv_zero] at e
    rw [← e] at h0
    exact absurd h0 (by decide))
  clear hx hB hp hq hb hnu hW
  by_cases hn : 1 ≤ n ∧ n ≤ 121
  · have d0 : ((n : Int) == 0) = false := by simp; omega
    have d1 : decide ((121 : Int) < (n : Int)) = false := by simp; omega
    have hn' := hide hn
    have h121 : n ≤ 121 := hn.2
    clear hn
    go_enter Try.func56, Try.ntmps56
    go_wp2_with fail
    refine (of1_c _).mono ?_
    rintro e w1 ⟨x1, rfl, R1, hb1⟩
    replace B := hide (Below.then_ B.out hb1)
    replace R1 := hide (show Nn w1 w1.heap.size x1 (lcw q dn 0) from R1)
    clear hb1
    go_wp2
    go_loopw [3, 23] (fun s i wr => ∃ (k : Nat) (y : Nc), k ≤ n ∧ s = .slice y.A y.n y.c ∧ i = .int .i64 k ∧ Hid (Nn wr wr.heap.size y (lcw q dn k)) ∧ Hid (∀ i, i < k → 0 ≤ q i) ∧ Hid (Below w.heap.size w wr)) (fun _ i _ => n - (intOf i).toNat)
    case atStart => exact ⟨0, x1, Nat.zero_le _, rfl, rfl, R1, hide fun i hi => by omega, B⟩
    case round =>
      obtain ⟨k, y, hk, rfl, rfl, RY, hpos, B2⟩ := hrel
      clear R1 B
      by_cases hkl : k < n
      · have HW := HX.out.then_ B2.out
        have HV := HP.out.then_ B2.out
        obtain ⟨ad, hA, hab, E0, E1, E2⟩ := HW.all hkl
        subst hA
        have hk64 : (k : Int) < (n : Int) := by omega
        have RX := hide (HW.nums k hkl).1
        have RD := hide (HV k hkl).2
        replace E0 := E0 wr (Below.refl _ _)
        replace E1 := E1 wr (Below.refl _ _)
        replace E2 := E2 wr (Below.refl _ _)
        obtain ⟨sg, hsg⟩ : ∃ v, sgn (q k).num = v := ⟨_, rfl⟩
        have hsg' := hide hsg
        have hs3 := sgn_cases (q k).num
        rw [hsg] at hs3
        clear HW HV hab
        go_wp2_with fail
        obtain ⟨W2, hW2⟩ : ∃ W2, W2 = wr.alloc (Obj.cells #[Value.bool (X k).s, Value.slice (X k).A (X k).n (X k).c, Value.slice (X k).B (X k).m (X k).d] 27) := ⟨_, rfl⟩
        rw [← hW2]
        have hal : Below wr.heap.size wr W2 := by rw [hW2]; exact Below.al_ (Below.refl _ _) _
        have hba := hide (show Box3 W2 wr.heap.size (Value.bool (X k).s) (Value.slice (X k).A (X k).n (X k).c) (Value.slice (X k).B (X k).m (X k).d) by rw [hW2]; exact Box3.new wr _ _ _ rfl)
        clear hW2 E0 E1 E2
        refine (sign_q (RX.out.then_ hal) gL (Nat.le_refl _) hsg'.out).mono ?_
        rintro e w5 ⟨rfl, hb5⟩
        have c_a2 := hba.out.at2 hba.out.lt_size (Nat.le_refl _) w5 hb5
        have hb6 := Below.then_ hal hb5
        replace RD := hide (RD.out.then_ hb6)
        replace RY := hide (RY.out.then_ hb6)
        have B5 := hide (Below.then_ B2.out hb6)
        clear hb5 hb6 hal hba RX
        rcases hs3 with h3 | h3 | h3
        · have hno := hide (vl_no (n := n) (q := q) fun h => by
            have h1 := h.2.1 k hkl
            have h2 : sgn (q k).num < 0 := by rw [hsg, h3]; decide
            rw [sgnq_neg] at h2
            grind)
          clear hsg
          subst h3
          go_wp2
          go_ret3
          rw [← hbh.out, hno.out]
          exact cm_no (y := zeroNc) B5.out
        · have hpos2 := hide (show ∀ i, i < k + 1 → 0 ≤ q i from fun i hi => by
            by_cases e : i = k
            · have h2 : ¬ sgn (q k).num < 0 := by rw [hsg, h3]; decide
              rw [sgnq_neg] at h2
              rw [e]; grind
            · exact hpos.out i (by omega))
          have hl := hide (lcw_no (q := q) (dn := dn) (k := k) fun h => by
            have h2 := sgnq_pos.2 h
            rw [hsg, h3] at h2
            exact absurd h2 (by decide))
          rw [hl.out] at RY
          clear hsg
          subst h3
          go_wp2
          go_roundw
          case rel => exact ⟨k + 1, y, by omega, by go_num, by go_num, RY, hpos2, B5⟩
          case measure => simp [intOf]; omega
        · have hqp : 0 < q k := by
            refine sgnq_pos.1 ?_
            rw [hsg, h3]; decide
          have hpos2 := hide (show ∀ i, i < k + 1 → 0 ≤ q i from fun i hi => by
            by_cases e : i = k
            · rw [e]; grind
            · exact hpos.out i (by omega))
          have hl := hide (lcw_yes (q := q) (dn := dn) (k := k) hqp)
          have hlk := hide (show Lg (lcw q dn k) from Lg.mono (lcw_le (by omega) hdn.out) (Lg.pw hWh.out (by omega)))
          clear hsg hqp
          subst h3
          go_wp2_with fail
          refine (lcm_z (RY.out.nz hlk.out) RD.out (Nat.le_refl _) hl.out).mono ?_
          rintro e w7 ⟨x7, rfl, R7, hb7⟩
          replace R7 := hide R7
          replace B5 := hide (Below.then_ B5.out hb7)
          clear hb7 c_a2
          go_wp2
          go_roundw
          case rel => exact ⟨k + 1, x7, by omega, by go_num, by go_num, R7, hpos2, B5⟩
          case measure => simp [intOf]; omega
      · obtain rfl : k = n := by omega
        have hlp := hide (lcw_pos hdn.out)
        have hdv := hide (fun i (hi : i < k) (h0 : 0 < q i) => lcw_dvd (dn := dn) hi h0)
        obtain ⟨W, hWe⟩ : ∃ W, W = lcw q dn k := ⟨_, rfl⟩
        rw [← hWe] at hlp hdv hWh RY
        clear hWe hkl
        go_wp2_with (at_make; refine wpList_make_nats rfl _ _ rfl _ _ _ _ k rfl rfl rfl rfl (by omega) w.heap.size B2.out.size ?_; intro w3 hO hb)
        replace B2 := hide (Below.then_ B2.out hb)
        replace RY := hide (RY.out.then_ hb)
        generalize wr.heap.size = g at *
        replace hO := hide hO
        clear hb
        go_wp2
        go_loopw [43] (fun i wr => ∃ (j : Nat) (Z : Nat → Nc) (z : Nat → Nat), j ≤ k ∧ i = .int .i64 j ∧ Hid (OwnN wr w.heap.size (.slice (some ⟨g, 0, none⟩) k k) k Z z) ∧ Hid (∀ i, i < j → z i = nu i * (W / dn i)) ∧ Hid (Nn wr wr.heap.size y W) ∧ Hid (Below w.heap.size w wr)) (fun i _ => k - (intOf i).toNat)
        case atStart => exact ⟨0, _, _, Nat.zero_le _, rfl, hO, hide fun i hi => by omega, RY, B2⟩
        case round =>
          obtain ⟨j, Z, z, hj, rfl, hZ, hz, RW, B4⟩ := hrel
          clear hO RY B2
          by_cases hjl : j < k
          · have HW := HX.out.then_ B4.out
            have HV := HP.out.then_ B4.out
            obtain ⟨ad, hA, hab, E0, E1, E2⟩ := HW.all hjl
            subst hA
            have hj64 : (j : Int) < (k : Int) := by omega
            have RN := hide (HV j hjl).1
            have RD := hide (HV j hjl).2
            replace E0 := E0 wr (Below.refl _ _)
            replace E1 := E1 wr (Below.refl _ _)
            replace E2 := E2 wr (Below.refl _ _)
            have hlW := hide (Lg.pw hWh.out (by omega))
            have hlq := hide (show Lg (W / dn j) from Lg.mono (Nat.div_le_self _ _) hlW.out)
            clear HW HV hab
            go_wp2_with fail
            obtain ⟨W2, hW2⟩ : ∃ W2, W2 = wr.alloc (Obj.cells #[Value.bool (X j).s, Value.slice (X j).A (X j).n (X j).c, Value.slice (X j).B (X j).m (X j).d] 27) := ⟨_, rfl⟩
            rw [← hW2]
            have hal : Below wr.heap.size wr W2 := by rw [hW2]; exact Below.al_ (Below.refl _ _) _
            have hba := hide (show Box3 W2 wr.heap.size (Value.bool (X j).s) (Value.slice (X j).A (X j).n (X j).c) (Value.slice (X j).B (X j).m (X j).d) by rw [hW2]; exact Box3.new wr _ _ _ rfl)
            clear hW2 E0 E1 E2
            refine (quo_z ((RW.out.nz hlW.out).then_ hal) (RD.out.then_ hal) (Nat.le_refl _) rfl).mono ?_
            rintro e w5 ⟨x5, y5, ok5, rfl, R5, hb5⟩
            have hb6 := Below.then_ hal hb5
            have c_a1 := hba.out.at1 hba.out.lt_size (Nat.le_refl _) w5 hb5
            replace RN := hide (RN.out.then_ hb6)
            replace RW := hide (RW.out.then_ hb6)
            replace hZ := hide (hZ.out.then_ hb6)
            replace B4 := hide (Below.then_ B4.out hb6)
            replace R5 := hide R5
            clear hb5 hb6 hal hba RD
            go_wp2_with fail
            refine (mul_z RN.out (R5.out.nz hlq.out) (Nat.le_refl _) rfl).mono ?_
            rintro e w6 ⟨x6, rfl, R6, hb⟩
            have hO6 := hZ.out.then_ hb
            obtain ⟨G0, G1, G2⟩ := hO6.all hjl
            replace G0 := G0 w6 (Below.refl _ _)
            replace G1 := G1 j w6 (Below.refl _ _)
            replace G2 := G2 w6 (Below.refl _ _)
            have hS := hide (hO6.set hjl R6)
            have hgr := setN_grown w6 g j x6
            have B6 := hide (hO6.below hgr (Below.then_ B4.out hb) (Below.then_ B4.out hb).size)
            have RW6 := hide ((RW.out.then_ hb).grownN hO6.noU hgr)
            have hz2 := hide (show ∀ i, i < j + 1 → upd z j (nu j * (W / dn j)) i = nu i * (W / dn i) from fun i hi => by
              by_cases e : i = j
              · subst e; rw [upd_same]
              · rw [upd_ne e]; exact hz.out i (by omega))
            clear hb hO6 hgr R6 hZ RW B4 c_a1
            go_wp2
            go_roundw
            case rel => exact ⟨j + 1, _, _, by omega, by go_num, hS, hz2, RW6, B6⟩
            case measure => simp [intOf]; omega
          · obtain rfl : j = k := by omega
            have hzk := hide (show ∀ i, i < j → z i < pw (K + K) from fun i hi => by
              rw [hz.out i hi, pw_add]
              exact Nat.mul_lt_mul'' (hnuh.out i hi) (Nat.lt_of_le_of_lt (Nat.div_le_self _ _) hWh.out))
            have hrat := hide (show ∀ i, i < j → (z i : Rat) = q i * (W : Rat) from fun i hi => by
              rw [hz.out i hi]
              exact part_rat (hpos.out i hi) (hqh.out i hi) (hdv.out i hi))
            have hres := hide (vl_parts (n := j) hn'.out hpos.out (by have := hlp.out; omega) hrat.out)
            obtain ⟨cv, hcv⟩ : ∃ v, cmpN (ns z j) W = v := ⟨_, rfl⟩
            rw [hcv] at hres
            have hcvh := hide hcv
            clear hcv
            go_wp2_with fail
            refine (total_n hZ.out.read (Nat.le_refl _) hzk.out (by omega) (by omega) rfl).mono ?_
            rintro e w5 ⟨x5, rfl, R5, hb⟩
            replace hZ := hide (hZ.out.then_ hb)
            replace RW := hide (RW.out.then_ hb)
            replace B4 := hide (Below.then_ B4.out hb)
            replace R5 := hide R5
            clear hb
            go_wp2_with fail
            refine (cmp_z (R5.out.nz (Lg.pw (ns_lt hzk.out (by omega)) (by omega))) (RW.out.nz (Lg.pw hWh.out (by omega))) hcvh.out).mono ?_
            rintro e w6 ⟨rfl, hb⟩
            replace hZ := hide (hZ.out.then_ hb)
            replace RW := hide (RW.out.then_ hb)
            replace B4 := hide (Below.then_ B4.out hb)
            clear hb
            go_wp2
            go_ret3
            rw [← hres.out, hbh.out]
            exact ⟨_, j, _, y, rfl, B4.out, fun _ => ⟨Z, z, W, rfl, hZ.out.read, RW.out, by have := hlp.out; omega, hWh.out, hrat.out⟩⟩
  · have hno := hide (vl_no (q := q) fun h => hn h.1)
    have e0 : ((n : Int) == 0) = true ∨ (((n : Int) == 0) = false ∧ decide ((121 : Int) < (n : Int)) = true) := by simp; omega
    clear hn
    rcases e0 with e0 | ⟨e0, e1⟩
    all_goals
      go_enter Try.func56, Try.ntmps56
      go_wp2
      go_ret3
      rw [← hbh.out, hno.out]
      exact cm_no (y := zeroNc) B.out
end

section
open Go.RowKit

/-- what stands at k, when rows below i and the first j products of row i are added -/
def cvt (nb : Nat) (a b : Nat → Nat) (i j k m : Nat) : Nat := if m ≤ k ∧ k - m < (if m < i then nb else j) then a m * b (k - m) else 0
def cvp (nb : Nat) (a b : Nat → Nat) (i j k : Nat) : Nat := ns (cvt nb a b i j k) (i + 1)
theorem cvp_zero (nb : Nat) (a b : Nat → Nat) (k : Nat) : cvp nb a b 0 0 k = 0 := by simp [cvp, ns, cvt]
theorem cvp_at (nb : Nat) (a b : Nat → Nat) (i j : Nat) : cvp nb a b i j (i + j) + a i * b j = cvp nb a b i (j + 1) (i + j) := by
  unfold cvp
  rw [ns, ns]
  have e : ns (cvt nb a b i j (i + j)) i = ns (cvt nb a b i (j + 1) (i + j)) i := ns_congr fun m hm => by simp [cvt, hm]
  have e1 : cvt nb a b i j (i + j) i = 0 := by simp [cvt]
  have e2 : cvt nb a b i (j + 1) (i + j) i = a i * b j := by simp [cvt]
  rw [e, e1, e2]
  omega
theorem cvp_off (nb : Nat) (a b : Nat → Nat) {i j k : Nat} (h : k ≠ i + j) : cvp nb a b i j k = cvp nb a b i (j + 1) k := by
  unfold cvp
  rw [ns, ns]
  have e : ns (cvt nb a b i j k) i = ns (cvt nb a b i (j + 1) k) i := ns_congr fun m hm => by simp [cvt, hm]
  have e1 : cvt nb a b i j k i = cvt nb a b i (j + 1) k i := by
    unfold cvt
    simp only [Nat.lt_irrefl, if_false]
    have h2 : (i ≤ k ∧ k - i < j) ↔ (i ≤ k ∧ k - i < j + 1) := ⟨fun ⟨x, y⟩ => ⟨x, by omega⟩, fun ⟨x, y⟩ => ⟨x, by omega⟩⟩
    simp only [h2]
  rw [e, e1]
theorem cvp_row (nb : Nat) (a b : Nat → Nat) (i k : Nat) : cvp nb a b i nb k = cvp nb a b (i + 1) 0 k := by
  unfold cvp
  have e0 : ns (cvt nb a b (i + 1) 0 k) (i + 1 + 1) = ns (cvt nb a b (i + 1) 0 k) (i + 1) + cvt nb a b (i + 1) 0 k (i + 1) := rfl
  have e : ns (cvt nb a b i nb k) (i + 1) = ns (cvt nb a b (i + 1) 0 k) (i + 1) := ns_congr fun m hm => by
    unfold cvt
    have : (if m < i then nb else nb) = (if m < i + 1 then nb else 0) := by rw [if_pos hm]; split <;> rfl
    rw [this]
  have e1 : cvt nb a b (i + 1) 0 k (i + 1) = 0 := by simp [cvt]
  rw [e0, e, e1]
  rfl
theorem cvt_lt {nb : Nat} {a b : Nat → Nat} {Ka Kb na i j k m : Nat} (ha : ∀ i, i < na → a i < pw Ka) (hb : ∀ i, i < nb → b i < pw Kb) (hm : m < na) (hj : j ≤ nb) : cvt nb a b i j k m < pw (Ka + Kb) := by
  have h0 : ∀ c, c ≤ nb → (if m ≤ k ∧ k - m < c then a m * b (k - m) else 0) < pw (Ka + Kb) := fun c hc => by
    split
    · rename_i h
      rw [pw_add]
      exact Nat.mul_lt_mul'' (ha m hm) (hb _ (Nat.lt_of_lt_of_le h.2 hc))
    · exact pw_pos _
  exact h0 _ (by split <;> omega)
theorem cvp_lt {nb : Nat} {a b : Nat → Nat} {Ka Kb na i j k : Nat} (ha : ∀ i, i < na → a i < pw Ka) (hb : ∀ i, i < nb → b i < pw Kb) (hi : i < na) (hj : j ≤ nb) (hna : na ≤ 1000000) : cvp nb a b i j k < pw (Ka + Kb + 1) :=
  ns_lt (fun m hm => cvt_lt ha hb (by omega) hj) (by omega)
/-- all rows -/
def cvn (na nb : Nat) (a b : Nat → Nat) (k : Nat) : Nat := ns (fun m => if m ≤ k ∧ k - m < nb then a m * b (k - m) else 0) na
theorem cvp_end (nb : Nat) (a b : Nat → Nat) (na k : Nat) : cvp nb a b na 0 k = cvn na nb a b k := by
  unfold cvp cvn
  rw [ns]
  have e1 : cvt nb a b na 0 k na = 0 := by simp [cvt]
  rw [e1, Nat.add_zero]
  exact ns_congr fun m hm => by simp [cvt, hm]
theorem cvn_lt {na nb : Nat} {a b : Nat → Nat} {Ka Kb k : Nat} (ha : ∀ i, i < na → a i < pw Ka) (hb : ∀ i, i < nb → b i < pw Kb) (hna : na ≤ 1000000) : cvn na nb a b k < pw (Ka + Kb + 1) :=
  ns_lt (fun m hm => by
    split
    · rename_i h
      rw [pw_add]
      exact Nat.mul_lt_mul'' (ha m hm) (hb _ h.2)
    · exact pw_pos _) (by omega)
/-- as ratios over the product of the wholes -/
theorem cvn_rat {na nb : Nat} {a b : Nat → Nat} {p q : Nat → Rat} {V W : Nat} (ha : ∀ i, i < na → (a i : Rat) = p i * (V : Rat)) (hb : ∀ i, i < nb → (b i : Rat) = q i * (W : Rat)) (k : Nat) :
    ((cvn na nb a b k : Nat) : Rat) = cv (ex na p) (ex nb q) k * ((V * W : Nat) : Rat) := by
  have h1 : ∀ n, n ≤ na → ((ns (fun m => if m ≤ k ∧ k - m < nb then a m * b (k - m) else 0) n : Nat) : Rat) = qs (fun m => (if m ≤ k then ex na p m * ex nb q (k - m) else 0)) n * ((V * W : Nat) : Rat) := by
    intro n
    induction n with
    | zero => intro _; simp [ns, qs]
    | succ n ih =>
      intro hn
      rw [ns, qs, Rat.natCast_add, ih (by omega)]
      have e : ((if n ≤ k ∧ k - n < nb then a n * b (k - n) else 0 : Nat) : Rat) = (if n ≤ k then ex na p n * ex nb q (k - n) else 0) * ((V * W : Nat) : Rat) := by
        by_cases h2 : n ≤ k
        · by_cases h3 : k - n < nb
          · rw [if_pos ⟨h2, h3⟩, if_pos h2, Rat.natCast_mul, Rat.natCast_mul, ha n (by omega), hb _ h3]
            simp only [ex, if_pos h3, if_pos (show n < na by omega)]
            grind
          · rw [if_neg (fun h => h3 h.2), if_pos h2]
            simp [ex, h3]
        · rw [if_neg (fun h => h2 h.1), if_neg h2]
          simp
      rw [e]
      grind
  unfold cvn
  rw [h1 na (Nat.le_refl _)]
  congr 1
  have e1 : qs (fun m => (if m ≤ k then ex na p m * ex nb q (k - m) else 0)) (na + (k + 1)) = qs (fun m => (if m ≤ k then ex na p m * ex nb q (k - m) else 0)) na := qs_tail (by omega) fun i hi _ => by simp [ex, show ¬ i < na by omega]
  have e2 : qs (fun m => (if m ≤ k then ex na p m * ex nb q (k - m) else 0)) (na + (k + 1)) = qs (fun m => (if m ≤ k then ex na p m * ex nb q (k - m) else 0)) (k + 1) := qs_tail (by omega) fun i hi _ => by rw [if_neg (by omega)]
  rw [← e1, e2, cv]
  exact qs_congr fun i hi => by rw [if_pos (by omega)]
/-- a list of numbers of the call's own was handed back -/
def RetLN (w : World) (n : Nat) (z : Nat → Nat) (e : Ending) (w' : World) : Prop := ∃ (g c : Nat) (Z : Nat → Nc), e = .returned (.slice (some ⟨g, 0, none⟩) n c) ∧ OwnN w' w.heap.size (.slice (some ⟨g, 0, none⟩) n c) n Z z ∧ Below w.heap.size w w'
set_option maxHeartbeats 8000000 in
set_option maxRecDepth 100000 in
theorem convolved_n {w : World} {Bd na nb ca cb Ka Kb N : Nat} {A A' : Option Addr} {X Y : Nat → Nc} {a b : Nat → Nat} (hx : LN w Bd A na ca X a) (hy : LN w Bd A' nb cb Y b) (hB : Bd ≤ w.heap.size) (hna : 1 ≤ na ∧ na ≤ 1000) (hnb : 1 ≤ nb ∧ nb ≤ 1000)
    (hN : na + nb = N + 1) (ha : ∀ i, i < na → a i < pw Ka) (hb : ∀ i, i < nb → b i < pw Kb) (hK : Ka + Kb + 1 ≤ 1000000000) :
    Calls Try.prog 54 #[.slice A na ca, .slice A' nb cb] w (RetLN w N (cvn na nb a b)) := by
  have hNi : (na : Int) + (nb : Int) - 1 = (N : Int) := by omega
  have hcap := hx.cap
  have hcb := hx.cbig
  have hcap' := hy.cap
  have hcb' := hy.cbig
  have HX := hide (hx.upto (Below.refl _ _) hB)
  have HY := hide (hy.upto (Below.refl _ _) hB)
  have B := hide (Below.refl w.heap.size w)
  have hah := hide ha
  have hbh := hide hb
  have hKh := hide hK
  have hnah := hide hna
  have hnbh := hide hnb
  have hn1 := hna.2
  have hn2 := hnb.2
  have hNh := hide hN
  have hN2 : N ≤ 2000 := by omega
  clear hx hy hB ha hb hK hna hnb hN
  go_enter Try.func54, Try.ntmps54
  go_wp2_with (at_make; refine wpList_make_nats rfl _ _ rfl _ _ _ _ N rfl rfl rfl rfl (by omega) w.heap.size (Nat.le_refl _) ?_; intro w3 hO hb)
  replace B := hide (Below.then_ B.out hb)
  replace hO := hide hO
  clear hb
  go_wp2
  have hst := hide (show ∀ k, k < N → (fun _ : Nat => (0 : Nat)) k = cvp nb a b 0 0 k from fun k _ => (cvp_zero nb a b k).symm)
  go_loopw [17] (fun i wr => ∃ (I : Nat) (Z : Nat → Nc) (z : Nat → Nat), I ≤ na ∧ i = .int .i64 I ∧ Hid (OwnN wr w.heap.size (.slice (some ⟨w.heap.size, 0, none⟩) N N) N Z z) ∧ Hid (∀ k, k < N → z k = cvp nb a b I 0 k) ∧ Hid (Below w.heap.size w wr)) (fun i _ => na - (intOf i).toNat)
  case atStart => exact ⟨0, _, _, Nat.zero_le _, rfl, hO, hst, B⟩
  case round =>
    obtain ⟨I, Z, z, hI, rfl, hZ, hz, B2⟩ := hrel
    clear hO B hst
    by_cases hIl : I < na
    · have hI64 : (I : Int) < (na : Int) := by omega
      go_wp2
      go_loopw [22] (fun j wr => ∃ (J : Nat) (Z : Nat → Nc) (z : Nat → Nat), J ≤ nb ∧ j = .int .i64 J ∧ Hid (OwnN wr w.heap.size (.slice (some ⟨w.heap.size, 0, none⟩) N N) N Z z) ∧ Hid (∀ k, k < N → z k = cvp nb a b I J k) ∧ Hid (Below w.heap.size w wr)) (fun j _ => nb - (intOf j).toNat)
      case atStart => exact ⟨0, Z, z, Nat.zero_le _, rfl, hZ, hz, B2⟩
      case round =>
        obtain ⟨J, Z', z', hJ, rfl, hZ', hz', B3⟩ := hrel
        clear hZ hz B2
        by_cases hJl : J < nb
        · have hJ64 : (J : Int) < (nb : Int) := by omega
          obtain ⟨p, hp⟩ : ∃ p, p = I + J := ⟨_, rfl⟩
          have hadd : (I : Int) + (J : Int) = (p : Int) := by omega
          have hpN : p < N := by have := hNh.out; omega
          have hw : IntKind.i64.wrap ((I : Int) + (J : Int)) = (p : Int) := by rw [IntKind.wrap_i64]; omega
          have hwp : IntKind.i64.wrap (p : Int) = (p : Int) := by rw [IntKind.wrap_i64]; omega
          have hp0 : (0 : Int) ≤ (p : Int) := by omega
          have hpt2 : ((p : Int)).toNat = p := by omega
          have hp64 : (p : Int) < (N : Int) := by omega
          have hph := hide hp
          have hsum := hide (show z' p + a I * b J = cvp nb a b I (J + 1) p by
            rw [hz'.out p hpN, hp]
            exact cvp_at nb a b I J)
          have hlg1 := hide (show Lg (z' p) by
            rw [hz'.out p hpN]
            exact Lg.pw (cvp_lt hah.out hbh.out hIl hJ (by omega)) hKh.out)
          have hlgm := hide (show Lg (a I * b J) from Lg.pw (k := Ka + Kb) (by rw [pw_add]; exact Nat.mul_lt_mul'' (hah.out I hIl) (hbh.out J hJl)) (by have := hKh.out; omega))
          have hlga := hide (Lg.pw (hah.out I hIl) (by have := hKh.out; omega))
          have hlgb := hide (Lg.pw (hbh.out J hJl) (by have := hKh.out; omega))
          obtain ⟨G0, G1, G2⟩ := hZ'.out.all hpN
          have HW := HX.out.then_ B3.out
          have HV := HY.out.then_ B3.out
          obtain ⟨ad, hA, hab, E0⟩ := HW.all hIl
          obtain ⟨ad', hA', hab', F0⟩ := HV.all hJl
          subst hA hA'
          have RA := hide (HW.nums I hIl)
          have RB := hide (HV.nums J hJl)
          have RS := hide (hZ'.out.2.2 p hpN)
          have hbx := Below.drw_ wr
          clear HW HV hab hab' hp
          go_wp2_with fail
          go_region_with (first | (go_at_call 52; refine (mul_z ((RA.out.then_ hbx).nz hlga.out) ((RB.out.then_ hbx).nz hlgb.out) (Nat.le_refl _) rfl).mono ?_; rintro e w8 ⟨x8, rfl, R8, hb8⟩; have U8 : Below wr.heap.size wr w8 := Below.then_ hbx hb8; replace R8 := hide R8; clear hb8) | (go_at_call 77; refine (add_z ((RS.out.then_ U8).nz hlg1.out) (R8.out.nz hlgm.out) (Nat.le_refl _) hsum.out).mono ?_; rintro e w9 ⟨x9, rfl, R9, hb9⟩; have U9 : Below wr.heap.size wr w9 := Below.then_ U8 hb9; have hO9 := hide (hZ'.out.then_ U9); have hS2 := hide (hO9.out.set hpN R9); have B6 := hide (hO9.out.below (setN_grown w9 w.heap.size p x9) (Below.then_ B3.out U9) (Below.then_ B3.out U9).size); clear hb9 R9))
          all_goals
            clear G0 G1 G2 E0 F0
            have hz2 := hide (show ∀ k, k < N → upd z' p (cvp nb a b I (J + 1) p) k = cvp nb a b I (J + 1) k from fun k hk => by
              by_cases e : k = p
              · rw [e, upd_same]
              · rw [upd_ne e, hz'.out k hk]; exact cvp_off nb a b (by have := hph.out; omega))
            go_wp2
            go_roundw
            case rel => exact ⟨J + 1, _, _, by omega, by go_num, hS2, hz2, B6⟩
            case measure => simp [intOf]; omega
        · obtain rfl : J = nb := by omega
          have hz2 := hide (show ∀ k, k < N → z' k = cvp J a b (I + 1) 0 k from fun k hk => by rw [hz'.out k hk]; exact cvp_row J a b I k)
          go_wp2
          go_roundw
          case rel => exact ⟨I + 1, Z', z', by omega, by go_num, hZ', hz2, B3⟩
          case measure => simp [intOf]; omega
    · obtain rfl : I = na := by omega
      have hfin := hide (hZ.out.congr (r := cvn I nb a b) fun k hk => by rw [hz.out k hk]; exact cvp_end nb a b I k)
      go_wp2
      go_ret
      exact ⟨_, _, Z, rfl, hfin.out, B2.out⟩
end

section
open Go.RowKit

/-- the product of the first n -/
def np (v : Nat → Nat) : Nat → Nat
  | 0 => 1
  | n + 1 => np v n * v n
theorem np_pos {v : Nat → Nat} : ∀ {n : Nat}, (∀ i, i < n → v i ≠ 0) → 0 < np v n
  | 0, _ => Nat.one_pos
  | n + 1, h => Nat.mul_pos (np_pos fun i hi => h i (by omega)) (Nat.pos_of_ne_zero (h n (by omega)))
theorem np_mono {v : Nat → Nat} : ∀ {n j : Nat}, j ≤ n → (∀ i, i < n → v i ≠ 0) → np v j ≤ np v n
  | 0, j, hj, _ => by obtain rfl : j = 0 := by omega
                      exact Nat.le_refl _
  | n + 1, j, hj, h => by
    by_cases e : j = n + 1
    · rw [e]; exact Nat.le_refl _
    · have ih := np_mono (v := v) (n := n) (j := j) (by omega) fun i hi => h i (by omega)
      rw [np]
      exact Nat.le_trans ih (Nat.le_mul_of_pos_right _ (Nat.pos_of_ne_zero (h n (by omega))))
theorem pw_le' {i j : Nat} (h : i ≤ j) : pw i ≤ pw j := by
  obtain ⟨k, rfl⟩ : ∃ k, j = i + k := ⟨j - i, by omega⟩
  rw [pw_add]
  exact Nat.le_mul_of_pos_right _ (pw_pos k)
theorem zneg_nat (m : Nat) : zneg (m : Int) = false := by simp [zneg]
theorem zmag_nat (m : Nat) : zmag (m : Int) = m := by simp [zmag]
theorem divInt_nn (a : Nat) {b : Nat} (hb : b ≠ 0) : (Rat.divInt (a : Int) (b : Int)).num = ((a / Nat.gcd a b : Nat) : Int) ∧ (Rat.divInt (a : Int) (b : Int)).den = b / Nat.gcd a b := by
  have e : Rat.divInt (a : Int) (b : Int) = qv false a b := by rw [qv_ne hb]; rfl
  rw [e]
  exact ⟨qv_num false a hb, qv_den false a hb⟩
theorem divInt_mul_nn (a : Nat) {b : Nat} (hb : b ≠ 0) : Rat.divInt (a : Int) (b : Int) * (b : Rat) = (a : Rat) := by
  rw [Rat.divInt_eq_div, Rat.intCast_natCast, Rat.intCast_natCast]
  exact Rat.div_mul_cancel (natCast_ne hb)
theorem divInt_red {a b : Nat} (hb : b ≠ 0) (hg : Nat.gcd a b = 1) : (Rat.divInt (a : Int) (b : Int)).num = (a : Int) ∧ (Rat.divInt (a : Int) (b : Int)).den = b := by
  obtain ⟨h1, h2⟩ := divInt_nn a hb
  rw [h1, h2, hg, Nat.div_one, Nat.div_one]
  exact ⟨rfl, rfl⟩
theorem low_step {P N v : Nat} (hN : N ≠ 0) (hv : v ≠ 0) {q r : Rat} (hq : Rat.divInt (P : Int) (N : Int) = q) (hr : Rat.divInt (zmag q.num : Int) (v : Int) = r) :
    zneg r.num = false ∧ Nat.gcd (zmag r.num) (q.den * r.den) = 1 ∧ q.den * r.den ≠ 0 ∧ Rat.divInt (zmag r.num : Int) ((q.den * r.den : Nat) : Int) = Rat.divInt (P : Int) ((N * v : Nat) : Int) ∧ zmag r.num ≤ zmag q.num ∧ q.den * r.den ≤ N * v := by
  obtain ⟨q1, q2⟩ := divInt_nn P hN
  rw [hq] at q1 q2
  obtain ⟨r1, r2⟩ := divInt_nn (zmag q.num) hv
  rw [hr] at r1 r2
  have hrm : zmag r.num = zmag q.num / Nat.gcd (zmag q.num) v := by rw [r1, zmag_nat]
  have c1 : Nat.Coprime (zmag r.num) q.den := by
    rw [hrm]
    exact Nat.Coprime.coprime_dvd_left (Nat.div_dvd_of_dvd (Nat.gcd_dvd_left _ _)) q.reduced
  have c2 : Nat.Coprime (zmag r.num) r.den := r.reduced
  have c3 : Nat.gcd (zmag r.num) (q.den * r.den) = 1 := Nat.Coprime.mul_right c1 c2
  have hd : q.den * r.den ≠ 0 := Nat.mul_ne_zero q.den_nz r.den_nz
  have hNv : N * v ≠ 0 := Nat.mul_ne_zero hN hv
  have e : Rat.divInt (zmag r.num : Int) ((q.den * r.den : Nat) : Int) = Rat.divInt (P : Int) ((N * v : Nat) : Int) := by
    have m1 := divInt_mul_nn (zmag r.num) hd
    have m2 := divInt_mul_nn P hNv
    have m3 := divInt_mul_nn P hN
    have m4 := divInt_mul_nn (zmag q.num) hv
    rw [hq] at m3
    rw [hr] at m4
    have m5 := mul_den r
    have m6 := mul_den q
    rw [show (r.num : Rat) = ((zmag r.num : Nat) : Rat) by rw [r1, zmag_nat, Rat.intCast_natCast]] at m5
    rw [show (q.num : Rat) = ((zmag q.num : Nat) : Rat) by rw [q1, zmag_nat, Rat.intCast_natCast]] at m6
    have z1 := natCast_ne q.den_nz
    have z2 := natCast_ne r.den_nz
    have z3 := natCast_ne hN
    have z4 := natCast_ne hv
    rw [Rat.natCast_mul] at m1 m2
    generalize Rat.divInt (zmag r.num : Int) ((q.den * r.den : Nat) : Int) = x at *
    generalize Rat.divInt (P : Int) ((N * v : Nat) : Int) = y at *
    generalize ((zmag r.num : Nat) : Rat) = a at *
    generalize ((zmag q.num : Nat) : Rat) = b at *
    generalize (q.den : Rat) = c at *
    generalize (r.den : Rat) = d at *
    generalize (N : Rat) = n at *
    generalize (v : Rat) = u at *
    generalize (P : Rat) = t at *
    grind
  refine ⟨by rw [r1]; exact zneg_nat _, c3, hd, e, by rw [hrm]; exact Nat.div_le_self _ _, ?_⟩
  have h1 := (divInt_red hd c3).2
  have h2 := (divInt_nn P hNv).2
  rw [e, h2] at h1
  rw [← h1]
  exact Nat.div_le_self _ _
/-- a list of ratios in normal form was handed back -/
def RetLQ (w : World) (n L : Nat) (z : Nat → Rat) (e : Ending) (w' : World) : Prop := ∃ (A : Option Addr) (c : Nat) (Z : Nat → Rc) (y : Nat → Rat), e = .returned (.slice A n c) ∧ LQ (fun _ => true) w' w'.heap.size L A n c Z y ∧ (∀ i, i < n → y i = z i) ∧ Below w.heap.size w w'
set_option maxHeartbeats 8000000 in
set_option maxRecDepth 100000 in
theorem lowest_q {w : World} {Bd n m ca cb K : Nat} {A A' : Option Addr} {X Y : Nat → Nc} {p v : Nat → Nat} (hx : LN w Bd A n ca X p) (hy : LN w Bd A' m cb Y v) (hB : Bd ≤ w.heap.size) (hn : n ≤ 1000) (hm : m ≤ 1000)
    (hp : ∀ i, i < n → p i < pw K) (hv : ∀ i, i < m → v i ≠ 0) (hV : np v m < pw K) (hK : 1 ≤ K ∧ K ≤ 400000000) :
    Calls Try.prog 55 #[.slice A n ca, .slice A' m cb] w (RetLQ w n K (fun k => Rat.divInt (p k : Int) (np v m : Int))) := by
  have hcap := hx.cap
  have hcb := hx.cbig
  have hcap' := hy.cap
  have hcb' := hy.cbig
  have HX := hide (hx.upto (Below.refl _ _) hB)
  have HY := hide (hy.upto (Below.refl _ _) hB)
  have B := hide (Below.refl w.heap.size w)
  have hph := hide hp
  have hvh := hide hv
  have hVh := hide hV
  have hKh := hide hK
  clear hx hy hB hp hv hV hK
  go_enter Try.func55, Try.ntmps55
  go_wp2_with (at_make; refine wpList_make_rats rfl _ _ rfl _ _ _ _ n rfl rfl rfl rfl (by omega) w.heap.size K (Nat.le_refl _) ?_; intro w3 hO hb)
  replace B := hide (Below.then_ B.out hb)
  have hO' := hide (hO.congr (mf := fun i => decide (i < 0)) (fun _ _ => rfl) (fun _ _ => rfl) (fun i _ h => by simp at h))
  clear hb hO
  go_wp2
  go_loopw [16] (fun i wr => ∃ (k : Nat) (Z : Nat → Rc) (z : Nat → Rat), k ≤ n ∧ i = .int .i64 k ∧ Hid (OwnQ (fun i => decide (i < k)) wr w.heap.size K (.slice (some ⟨w.heap.size, 0, none⟩) n n) n Z z) ∧ Hid (∀ i, i < k → z i = Rat.divInt (p i : Int) (np v m : Int)) ∧ Hid (Below w.heap.size w wr)) (fun i _ => n - (intOf i).toNat)
  case atStart => exact ⟨0, _, _, Nat.zero_le _, rfl, hO', hide fun i hi => by omega, B⟩
  case round =>
    obtain ⟨k, Z, z, hk, rfl, hZ, hz, B2⟩ := hrel
    clear B hO'
    by_cases hkl : k < n
    · have hk64 : (k : Int) < (n : Int) := by omega
      have HW := HX.out.then_ B2.out
      obtain ⟨ad, hA, hab, E0⟩ := HW.all hkl
      subst hA
      have RX := hide (HW.nums k hkl)
      replace E0 := E0 wr (Below.refl _ _)
      have hlp := hide (Lg.pw (hph.out k hkl) (by have := hKh.out; omega))
      clear HW hab
      go_wp2_with fail
      refine (of1_c _).mono ?_
      rintro e w4 ⟨x4, rfl, R4, hb4⟩
      replace RX := hide (RX.out.then_ hb4)
      replace hZ := hide (hZ.out.then_ hb4)
      replace B2 := hide (Below.then_ B2.out hb4)
      replace R4 := hide R4
      clear hb4 E0
      go_wp2_with fail
      refine (fraction_q (K := K) (q := Rat.divInt (p k : Int) (np v 0 : Int)) (RX.out.nz hlp.out) (R4.out.nz (Lg.pw (k := 1) (by decide) (by omega))) (Nat.le_refl _) (by decide) (hph.out k hkl) (Nat.lt_of_lt_of_le (by decide : 1 < pw 1) (pw_le' hKh.out.1)) hKh.out.1 rfl).mono ?_
      rintro e w5 ⟨x5, rfl, R5, hb5⟩
      have hZ5 := hZ.out.then_ hb5
      obtain ⟨G0, G1, G2, G3, G4⟩ := hZ5.all hkl
      have G30 := G3 (k * 3) w5 (Below.refl _ _)
      have G31 := G3 (k * 3 + 1) w5 (Below.refl _ _)
      have G32 := G3 (k * 3 + 2) w5 (Below.refl _ _)
      replace G0 := G0 w5 (Below.refl _ _)
      replace G1 := G1 w5 (Below.refl _ _)
      replace G2 := G2 w5 (Below.refl _ _)
      replace G4 := G4 w5 (Below.refl _ _)
      have hS := hide (hZ5.set hkl (Pq.of_nq (nf := true) R5))
      have B5 := hide (hZ5.below (set3_grown w5 w.heap.size k x5) (Below.then_ B2.out hb5) (Below.then_ B2.out hb5).size)
      obtain ⟨nfk, hnf⟩ : ∃ nfk, nfk = upd (fun i => decide (i < k)) k true := ⟨_, rfl⟩
      rw [← hnf] at hS
      have hnf' := hide hnf
      clear hnf G3 hZ5 R5 R4 RX hZ B2 hb5
      go_wp2
      clear G0 G1 G2 G30 G31 G32 G4
      go_loopw [29] (fun jv wr => ∃ (j : Nat) (y : Rc), j ≤ m ∧ jv = .int .i64 j ∧ Hid (OwnQ nfk wr w.heap.size K (.slice (some ⟨w.heap.size, 0, none⟩) n n) n (upd Z k y) (upd z k (Rat.divInt (p k : Int) (np v j : Int)))) ∧ Hid (Below w.heap.size w wr)) (fun jv _ => m - (intOf jv).toNat)
      case atStart => exact ⟨0, x5, Nat.zero_le _, rfl, hS, B5⟩
      case round =>
        obtain ⟨j, y, hj, rfl, hOw, B6⟩ := hrel
        clear hS B5
        by_cases hjl : j < m
        · have hj64 : (j : Int) < (m : Int) := by omega
          have HV := HY.out.then_ B6.out
          obtain ⟨ad', hA', hab', F0⟩ := HV.all hjl
          subst hA'
          have RV := hide (HV.nums j hjl)
          replace F0 := F0 wr (Below.refl _ _)
          obtain ⟨G0, G1, G2, G3, G4⟩ := hOw.out.all hkl
          rw [upd_same] at G0 G1 G2
          have hG1 := G1 wr (Below.refl _ _)
          clear HV hab' G0 G1 G2 G3 G4
          have RY := hide (show Nq wr wr.heap.size K y (Rat.divInt (p k : Int) (np v j : Int)) by
            have h := hOw.out.2.2 k hkl
            rw [upd_same, upd_same, hnf'.out, upd_same] at h
            exact h.nq)
          obtain ⟨q, hq⟩ : ∃ q, Rat.divInt (p k : Int) (np v j : Int) = q := ⟨_, rfl⟩
          rw [hq] at RY hOw
          obtain ⟨r, hr⟩ : ∃ r, Rat.divInt (zmag q.num : Int) (v j : Int) = r := ⟨_, rfl⟩
          have hvj := hvh.out j hjl
          have hNj : np v j ≠ 0 := Nat.pos_iff_ne_zero.1 (np_pos fun i hi => hvh.out i (by omega))
          have hst := hide (low_step hNj hvj hq hr)
          have hnp := hide (show np v j * v j < pw K from Nat.lt_of_le_of_lt (np_mono (j := j + 1) (by omega) hvh.out) hVh.out)
          have hvl := hide (show v j < pw K from Nat.lt_of_le_of_lt (Nat.le_mul_of_pos_left _ (Nat.pos_of_ne_zero hNj)) hnp.out)
          have hK1 := hKh.out.1
          have hK2 := hKh.out.2
          have hrh := hide hr
          have hqd := hide (show q.den < pw K from RY.out.lt.2)
          have hqn := hide (show zmag q.num < pw K from RY.out.lt.1)
          have hvjh := hide hvj
          clear hr hq hvj hNj
          go_wp2_with fail
          refine (fraction_q (K := K) (x := ⟨y.A, y.n, y.c⟩) (RY.out.num.nz (Lg.pw RY.out.lt.1 (by omega))) (RV.out.nz (Lg.pw hvl.out (by omega))) (Nat.le_refl _) hvjh.out RY.out.lt.1 hvl.out hK1 hrh.out).mono ?_
          rintro e w6 ⟨x6, rfl, R6, hb6⟩
          have hal : Below w6.heap.size w6 (w6.alloc (Obj.cells #[Value.bool x6.s, Value.slice x6.A x6.n x6.c, Value.slice x6.B x6.m x6.d] 27)) := Below.al_ (Below.refl _ _) _
          have hba := hide (Box3.new w6 (Value.bool x6.s) (Value.slice x6.A x6.n x6.c) (Value.slice x6.B x6.m x6.d) rfl)
          have hb7 := Below.then_ hb6 hal
          have RYd := hide (RY.out.den.then_ hb7)
          have hO7 := hide (hOw.out.then_ hb7)
          have B7 := hide (Below.then_ B6.out hb7)
          have R7 := hide (R6.then_ hal)
          clear hb7 hal hb6 R6 RY RV F0 hG1
          go_wp2_with fail
          obtain ⟨W7, hW7⟩ : ∃ W7, W7 = w6.alloc (Obj.cells #[Value.bool x6.s, Value.slice x6.A x6.n x6.c, Value.slice x6.B x6.m x6.d] 27) := ⟨_, rfl⟩
          rw [← hW7] at hba RYd hO7 B7 R7 ⊢
          clear hW7
          have c_n0 := hba.out.at0 hba.out.lt_size (Nat.le_refl _)
          have c_n1 := hba.out.at1 hba.out.lt_size (Nat.le_refl _)
          have c_n2 := hba.out.at2 hba.out.lt_size (Nat.le_refl _)
          obtain ⟨G0, G1, G2, G3, G4⟩ := hO7.out.all hkl
          rw [upd_same] at G0 G1 G2
          have hbx := Below.drw_ W7
          have hrd := hide R7.out.lt
          clear hba
          go_region_with (go_at_call 52; refine (mul_z ((RYd.out.then_ hbx).nz (Lg.pw hqd.out (by omega))) ((R7.out.den.then_ hbx).nz (Lg.pw hrd.out.2 (by omega))) (Nat.le_refl _) rfl).mono ?_; rintro e w8 ⟨x8, rfl, R8, hb8⟩; have U8 : Below W7.heap.size W7 w8 := Below.then_ hbx hb8; have hO8 := hide (hO7.out.then_ U8); have hNq := hide (show Nq w8 w8.heap.size K ⟨x6.s, x6.A, x6.n, x6.c, x8.A, x8.n, x8.c⟩ (Rat.divInt (p k : Int) (np v (j + 1) : Int)) by (have h1 := Nq.mk (L := K) (R7.out.num.then_ U8) R8 hst.out.2.2.1 hst.out.2.1 (Nat.lt_of_le_of_lt hst.out.2.2.2.2.1 hqn.out) (Nat.lt_of_le_of_lt hst.out.2.2.2.2.2 hnp.out) hst.out.2.2.2.1; have h2 : x6.s = false := (by rw [R7.out.1]; exact hst.out.1); rw [h2]; exact h1)); have hS2 := hide (hO8.out.set hkl (Pq.of_nq (nf := true) hNq.out)); have B8 := hide (hO8.out.below (set3_grown w8 w.heap.size k ⟨x6.s, x6.A, x6.n, x6.c, x8.A, x8.n, x8.c⟩) (Below.then_ B7.out U8) (Below.then_ B7.out U8).size); clear hb8 R8 hNq)
          all_goals
            rw [upd_upd, upd_upd] at hS2
            clear G0 G1 G2 G3 G4 c_n0 c_n1 c_n2
            go_wp2
            go_roundw
            case rel => exact ⟨j + 1, _, by omega, by go_num, hide (hS2.out.congr (fun _ _ => rfl) (fun _ _ => rfl) (fun i _ h => by
              unfold upd
              split
              · rfl
              · exact h)), B8⟩
            case measure => simp [intOf]; omega
        · obtain rfl : j = m := by omega
          have hz2 := hide (show ∀ i, i < k + 1 → upd z k (Rat.divInt (p k : Int) (np v j : Int)) i = Rat.divInt (p i : Int) (np v j : Int) from fun i hi => by
            by_cases e : i = k
            · subst e; rw [upd_same]
            · rw [upd_ne e]; exact hz.out i (by omega))
          have hO2 := hide (hOw.out.congr (mf := fun i => decide (i < k + 1)) (fun _ _ => rfl) (fun _ _ => rfl) (fun i _ h => by
            rw [hnf'.out]
            unfold upd
            split
            · rfl
            · simp at h ⊢; omega))
          go_wp2
          go_roundw
          case rel => exact ⟨k + 1, _, _, by omega, by go_num, hO2, hz2, B6⟩
          case measure => simp [intOf]; omega
    · obtain rfl : k = n := by omega
      have hfin := hide (hZ.out.congr (mf := fun _ => true) (fun _ _ => rfl) (fun _ _ => rfl) (fun i hi _ => by simpa using hi))
      obtain ⟨A6, c6, e6, hR6⟩ := hfin.out.rd
      simp only [Value.slice.injEq, true_and] at e6
      obtain ⟨rfl, rfl⟩ := e6
      replace hR6 := hide hR6
      go_wp2
      go_ret
      exact ⟨_, _, Z, z, rfl, hR6.out, hz.out, B2.out⟩
end
end Go.Proofs.Ytdihgmbldnekhaa
