/-
  Same, ExA, ExB, ExC, ExD, ExE.
-/
import Derived.Test.YtonpeagedggakaaGreatNatMem
import Derived.Test.YtonpeagedggakaaGreatRatN
import Derived.Deep.RegionWith
namespace Go.Proofs.YtonpeagedggakaaGreat
section
open Go.RowKit

set_option maxHeartbeats 1000000 in
theorem same_true (w : World) (Bd Bd' : Nat) (A A' : Option Addr) (n c n' c' : Nat) (xs ys : List Nat) (hx : Rd w Bd A n c xs) (hy : Rd w Bd' A' n' c' ys) (he : xs = ys) :
    Calls Tryz.prog 31 #[.slice A n c, .slice A' n' c'] w (RetQ w (.bool true)) := by
  subst he
  obtain rfl : n = n' := by rw [← hx.len, ← hy.len]
  have hcap := hx.cap
  have hbig := hx.big
  have hcap' := hy.cap
  have hbig' := hy.big
  have HX := hide hx
  have HY := hide hy
  clear hx hy
  go_enter Tryz.func31, Tryz.ntmps31
  go_wp2
  go_loopw [5] (fun i wr => ∃ k : Nat, k ≤ n ∧ i = .int .i64 k ∧ ∃ q, wr = w.drewN q) (fun i _ => n - (intOf i).toNat)
  case atStart => exact ⟨0, Nat.zero_le _, rfl, 0, rfl⟩
  case round =>
    obtain ⟨k, hk, rfl, q, rfl⟩ := hrel
    by_cases hkl : k < n
    · obtain ⟨ad, rfl, hadb, hca⟩ := HX.out.at_ hkl
      obtain ⟨ad', rfl, hadb', hca'⟩ := HY.out.at_ hkl
      go_wp2_with fail
      go_quiet (fail)
      go_wp2
      go_roundw
      case rel => exact ⟨k + 1, by omega, by go_num, _, rfl⟩
      case measure => simp [intOf]; omega
    · have hkm : k = n := by omega
      subst hkm
      go_wp2
      go_ret
      exact ⟨rfl, q, rfl⟩
end

section
open Go.RowKit

theorem wrap_nat {z : Int} {m : Nat} (hz : z = (m : Int)) (hm : m < 9223372036854775808) : IntKind.u64.wrap z = (m : Int) := by
  subst hz
  simp only [IntKind.wrap, IntKind.bits, IntKind.signed]
  simp
  omega
theorem num_nat (n : Nat) : ((n : Rat)).num = (n : Int) ∧ ((n : Rat)).den = 1 := ⟨by simp, by simp⟩
theorem Rd.one1 (w : World) : Rd (w.alloc (Obj.cells #[Value.int IntKind.u32 1] 55)) (w.alloc (Obj.cells #[Value.int IntKind.u32 1] 55)).heap.size (some ⟨w.heap.size, 0, none⟩) 1 1 (dig 1) := by
  rw [dig_one]
  refine ⟨rfl, fun k => ?_, by omega, by omega, by omega, fun _ => ⟨_, rfl, by simp, fun j hj => ?_⟩⟩
  · match k with
    | 0 => simp [lm]
    | k + 1 => simp [lm]
  · obtain rfl : j = 0 := by omega
    rw [add_zero_, cell_of_row _ _ 0 _ _ (0, 0) (heap_alloc_new w _)]
    simp [lm]
/-- a natural number as a ratio: made of its limbs and the limb 1 -/
theorem Nq.whole {w : World} {A B : Option Addr} {n c d : Nat} {m : Nat} (hA : Rd w w.heap.size A n c (dig m)) (hB : Rd w w.heap.size B 1 d (dig 1)) (hm : m < 18446744073709551616) : Nq w w.heap.size 3 ⟨false, A, n, c, B, 1, d⟩ (m : Rat) := by
  obtain ⟨h1, h2⟩ := num_nat m
  have hl : n ≤ 2 := by
    rw [← hA.len]
    refine (dig_len_le _ _).2 ?_
    have : pw 2 = 18446744073709551616 := by decide
    omega
  refine ⟨?_, ?_, ?_, by show n ≤ 3; omega, by show 1 ≤ 3; omega⟩
  · rw [h1]; simp [zneg]
  · rw [h1]
    have e : zmag (m : Int) = m := by simp [zmag]
    rw [e]; exact hA
  · rw [h2]; exact hB
set_option maxHeartbeats 4000000 in
theorem whole_q {w : World} {z : Int} {m : Nat} (hz : z = (m : Int)) (hm : m < 9223372036854775808) {q : Rat} (hq : (m : Rat) = q) : Calls Tryz.prog 26 #[.int .i64 z] w (RetN w 3 q) := by
  have hmax : max z 0 = (m : Int) := by omega
  have hwr := wrap_nat (z := (m : Int)) rfl hm
  replace hq := hide hq
  obtain ⟨W, hW⟩ : ∃ W, W = (w.alloc (.cells #[.bool false, .slice none 0 0, .slice none 0 0] 28)) := ⟨_, rfl⟩
  have b_r0 : Box3 W (w.heap.size) (.bool false) (.slice none 0 0) (.slice none 0 0) := by rw [hW]; exact (Box3.new w _ _ _ rfl)
  have hwW : Below w.heap.size w W := by rw [hW]; exact ((Below.refl _ _).alloc (Nat.le_refl _) _)
  have B := hide hwW
  clear hwW
  have U0 : Below W.heap.size W W := Below.refl _ _
  have c_r00 := b_r0.at0 b_r0.lt_size (Nat.le_refl _)
  have c_r01 := b_r0.at1 b_r0.lt_size (Nat.le_refl _)
  have c_r02 := b_r0.at2 b_r0.lt_size (Nat.le_refl _)
  have f_r00 := b_r0.free0 b_r0.lt_size (Nat.le_refl _)
  have f_r01 := b_r0.free1 b_r0.lt_size (Nat.le_refl _)
  have f_r02 := b_r0.free2 b_r0.lt_size (Nat.le_refl _)
  have l_r0 := b_r0.lt b_r0.lt_size (Nat.le_refl _)
  replace b_r0 := hide b_r0
  clear hz
  go_enter Tryz.func26, Tryz.ntmps26
  go_wp2_with fail
  rw [← hW]
  clear hW
  refine (rof_c (m := m) (by omega)).mono ?_
  rintro e w1 ⟨x1, rfl, R1, hb⟩
  have U1 : Below W.heap.size W w1 := Below.then_ U0 hb
  have hal : Below w1.heap.size w1 (w1.alloc (Obj.cells #[Value.int IntKind.u32 1] 55)) := (Below.refl _ _).alloc (Nat.le_refl _) _
  have U2 : Below W.heap.size W (w1.alloc (Obj.cells #[Value.int IntKind.u32 1] 55)) := Below.then_ U1 hal
  replace B := hide (Below.then_ (Below.then_ B.out hb) hal)
  have RN := hide (Nq.whole (R1.then_ hal) (Rd.one1 w1) (by omega : m < 18446744073709551616))
  rw [hq.out] at RN
  clear hb hal R1
  go_wp2
  have hl := l_r0 w1 U1
  have e : ((((w1.setCell ⟨w.heap.size, 0, none⟩ (.bool false)).setCell ⟨w.heap.size, 1, none⟩ (.slice x1.A x1.n x1.c)).setCell ⟨w.heap.size, 2, none⟩ (.slice (some ⟨w1.heap.size, 0, none⟩) 1 1)).alloc (.cells #[.int .u32 1] 55)) = ((((w1.alloc (.cells #[.int .u32 1] 55)).setCell ⟨w.heap.size, 0, none⟩ (.bool false)).setCell ⟨w.heap.size, 1, none⟩ (.slice x1.A x1.n x1.c)).setCell ⟨w.heap.size, 2, none⟩ (.slice (some ⟨w1.heap.size, 0, none⟩) 1 1)) := by
    rw [World.setCell_alloc_past _ _ _ _ hl, World.setCell_alloc_past _ _ _ _ (by simpa using hl), World.setCell_alloc_past _ _ _ _ (by simpa using hl)]
  rw [e]
  exact bodyPost_ret (v := .agg #[.bool false, .slice x1.A x1.n x1.c, .slice (some ⟨w1.heap.size, 0, none⟩) 1 1]) (by simp [results, Tryz.results26, go_sem, c_r00 _ U2, c_r01 _ U2, c_r02 _ U2]) rfl (RetN.box (x := ⟨false, x1.A, x1.n, x1.c, some ⟨w1.heap.size, 0, none⟩, 1, 1⟩) B.out (Nat.le_refl _) (c_r00 _ U2) (c_r01 _ U2) (c_r02 _ U2) RN.out)
theorem rsign_q {w : World} {Bd La : Nat} {a : Rc} {p : Rat} {k : Int} (ha : Rq w Bd La a p) (ga : La ≤ 400000000) (hB : Bd ≤ w.heap.size) (hr : sgn p.num = k) : Calls Tryz.prog 27 #[.agg #[.bool a.s, .slice a.A a.n a.c, .slice a.B a.m a.d]] w (RetB w (.int .i64 k)) := by
  obtain ⟨xs, ys, h1, h2, h3, h4, h5⟩ := ha
  exact rsign3_any h1 (by omega) h2 (by omega) hB (by rw [h5]; exact hr)
theorem sgnq_neg {q : Rat} : sgn q.num < 0 ↔ q < 0 := by
  have h := cmp_lt (p := q) (q := 0)
  rw [show q - 0 = q by grind] at h
  exact h
/-- a sum in a box of the call's own -/
structure SumQ (w wr : World) (L g : Nat) (y : Rc) (s : Rat) : Prop where
  below : Below w.heap.size w wr
  box : Box3 wr g (.bool y.s) (.slice y.A y.n y.c) (.slice y.B y.m y.d)
  num : Nq wr wr.heap.size L y s
  ge : w.heap.size ≤ g
theorem SumQ.start {w w1 : World} {L : Nat} {y : Rc} {s : Rat} (hb : Below w.heap.size w w1) (R : Nq w1 w1.heap.size L y s) : SumQ w (w1.alloc (.cells #[.bool y.s, .slice y.A y.n y.c, .slice y.B y.m y.d] 28)) L w1.heap.size y s :=
  ⟨Below.al_ hb _, Box3.new w1 _ _ _ rfl, R.al_ _, hb.size⟩
theorem SumQ.then_ {w wr w5 : World} {L g : Nat} {y : Rc} {s : Rat} (h : SumQ w wr L g y s) (hb : Below wr.heap.size wr w5) : SumQ w w5 L g y s :=
  ⟨Below.then_ h.below hb, h.box.keep hb, h.num.then_ hb, h.ge⟩
theorem SumQ.le {w wr : World} {L M g : Nat} {y : Rc} {s : Rat} (h : SumQ w wr L g y s) (hl : L ≤ M) : SumQ w wr M g y s := ⟨h.below, h.box, h.num.le hl, h.ge⟩
theorem SumQ.set {w wr w5 : World} {L M g : Nat} {y z : Rc} {s r : Rat} (h : SumQ w wr L g y s) (hb : Below wr.heap.size wr w5) (R : Nq w5 w5.heap.size M z r) :
    SumQ w (((w5.setCell ⟨g, 0, none⟩ (.bool z.s)).setCell ⟨g, 1, none⟩ (.slice z.A z.n z.c)).setCell ⟨g, 2, none⟩ (.slice z.B z.m z.d)) M g z r := by
  have h5 := h.then_ hb
  have c0 := h5.box.at0 h5.box.lt_size (Nat.le_refl _) _ (Below.refl _ _)
  have c1 := h5.box.at1 h5.box.lt_size (Nat.le_refl _) _ (Below.refl _ _)
  have c2 := h5.box.at2 h5.box.lt_size (Nat.le_refl _) _ (Below.refl _ _)
  exact ⟨((h5.below.setCell h.ge _).setCell h.ge _).setCell h.ge _, Box3.set h5.box _ _ _, by simpa using R.set3 (y := y) c0 c1 c2 (.bool z.s) (.slice z.A z.n z.c) (.slice z.B z.m z.d), h.ge⟩
/-- what a distribution is -/
def VldQ (n : Nat) (q : Nat → Rat) : Prop := (1 ≤ n ∧ n ≤ 121) ∧ (∀ i, i < n → 0 ≤ q i) ∧ qs q n = 1
noncomputable def vlB (n : Nat) (q : Nat → Rat) : Bool := @decide (VldQ n q) (Classical.propDecidable _)
theorem vl_yes {n : Nat} {q : Nat → Rat} (h : VldQ n q) : vlB n q = true := by simp [vlB, h]
theorem vl_no {n : Nat} {q : Nat → Rat} (h : ¬ VldQ n q) : vlB n q = false := by simp [vlB, h]
theorem vl_last {n : Nat} {q : Nat → Rat} (hn : 1 ≤ n ∧ n ≤ 121) (h : ∀ i, i < n → 0 ≤ q i) : vlB n q = ((sgn (qs q n - 1).num : Int) == 0) := by
  by_cases e : qs q n = 1
  · rw [vl_yes ⟨hn, h, e⟩, e]
    have : sgn ((1 : Rat) - 1).num = 0 := by
      rw [show (1 : Rat) - 1 = 0 by grind]
      simp [sgn]
    rw [this]; rfl
  · rw [vl_no fun h2 => e h2.2.2]
    have h1 : ¬ sgn (qs q n - 1).num = 0 := fun h3 => by
      have h4 := cmp_le (p := qs q n) (q := 1)
      have h5 := cmp_lt (p := qs q n) (q := 1)
      have h6 := h4.1 (by omega)
      have h7 : ¬ qs q n < 1 := fun h8 => by have := h5.2 h8; omega
      grind
    symm
    simpa using h1
set_option maxHeartbeats 8000000 in
set_option maxRecDepth 100000 in
theorem rvalid_q {nf : Nat → Bool} {w : World} {Bd n c : Nat} {A : Option Addr} {X : Nat → Rc} {q : Nat → Rat} (hx : LQ nf w Bd 1048576 A n c X q) (hB : Bd ≤ w.heap.size) :
    Calls Tryz.prog 10 #[.slice A n c] w (RetB w (.bool (vlB n q))) := by
  have hcap := hx.cap
  have hcb := hx.cbig
  have HX := hide (hx.upto (Below.refl _ _) hB)
  have B := hide (Below.refl w.heap.size w)
  clear hx hB
  by_cases hn : 1 ≤ n ∧ n ≤ 121
  · have d0 : decide ((n : Int) < 1) = false := by simp; omega
    have d1 : decide ((121 : Int) < (n : Int)) = false := by simp; omega
    have hn' := hide hn
    have h121 : n ≤ 121 := hn.2
    clear hn
    go_enter Tryz.func10, Tryz.ntmps10
    go_wp2_with fail
    refine (whole_q (m := 0) (q := qs q 0) rfl (by omega) (by simp [qs])).mono ?_
    rintro e w1 ⟨x1, rfl, R1, hb1⟩
    have hstart := hide (SumQ.start (Below.then_ B.out hb1) R1)
    clear R1 hb1 B
    go_wp2
    generalize w1.heap.size = g at *
    go_loopw [4] (fun i wr => ∃ (k : Nat) (y : Rc), k ≤ n ∧ i = .int .i64 k ∧ Hid (SumQ w wr (1048579 * k + 3) g y (qs q k)) ∧ Hid (∀ i, i < k → 0 ≤ q i)) (fun i _ => n - (intOf i).toNat)
    case atStart => exact ⟨0, x1, Nat.zero_le _, rfl, hstart, hide fun i hi => by omega⟩
    case round =>
      obtain ⟨k, y, hk, rfl, hI, hpos⟩ := hrel
      clear hstart
      have U0 : Below wr.heap.size wr wr := Below.refl _ _
      have hg := hI.out.box
      have c_g0 := hg.at0 hg.lt_size (Nat.le_refl _)
      have c_g1 := hg.at1 hg.lt_size (Nat.le_refl _)
      have c_g2 := hg.at2 hg.lt_size (Nat.le_refl _)
      by_cases hkl : k < n
      · have f_g0 := hg.free0 hg.lt_size (Nat.le_refl _)
        have f_g1 := hg.free1 hg.lt_size (Nat.le_refl _)
        have f_g2 := hg.free2 hg.lt_size (Nat.le_refl _)
        have l_g := hg.lt hg.lt_size (Nat.le_refl _)
        have HW := HX.out.then_ hI.out.below
        obtain ⟨ad, hA, hab, e0, e1, e2⟩ := HW.at_ hkl
        subst hA
        have hk64 : (k : Int) < (n : Int) := by omega
        have RX := hide (HW.nums k hkl).1
        obtain ⟨sg, hsg⟩ : ∃ v, sgn (q k).num = v := ⟨_, rfl⟩
        have hsg' := hide hsg
        clear HW hg
        go_wp2_with fail
        refine (rsign_q RX.out (by omega) (Nat.le_refl _) hsg'.out).mono ?_
        rintro e w5 ⟨rfl, hb5⟩
        replace hI := hide (hI.out.then_ hb5)
        replace RX := hide (RX.out.then_ hb5)
        have hab5 : ad.block < wr.heap.size := hab
        replace e0 := (hb5.cell (p := ad.add (k * 3)) (by rw [block_add]; exact hab)).trans e0
        replace e1 := (hb5.cell (p := ⟨(ad.add (k * 3)).block, (ad.add (k * 3)).off + 1, none⟩) (by show (ad.add (k * 3)).block < _; rw [block_add]; exact hab)).trans e1
        replace e2 := (hb5.cell (p := ⟨(ad.add (k * 3)).block, (ad.add (k * 3)).off + 2, none⟩) (by show (ad.add (k * 3)).block < _; rw [block_add]; exact hab)).trans e2
        clear c_g0 c_g1 c_g2 f_g0 f_g1 f_g2 l_g U0 hb5 hab hab5
        by_cases hneg : sg < 0
        · have d2 : decide (sg < 0) = true := by simpa using hneg
          have hno := hide (vl_no (n := n) (q := q) fun h => by
            have h1 := h.2.1 k hkl
            rw [← hsg, sgnq_neg] at hneg
            grind)
          clear hneg hsg
          go_wp2
          go_ret
          exact ⟨by rw [hno.out]; rfl, hI.out.below⟩
        · have d2 : decide (sg < 0) = false := by simpa using hneg
          have hpos2 := hide (show ∀ i, i < k + 1 → 0 ≤ q i from fun i hi => by
            by_cases e : i = k
            · subst e
              rw [← hsg, sgnq_neg] at hneg
              grind
            · exact hpos.out i (by omega))
          clear hneg hsg
          have hg := hI.out.box
          have c_g0 := hg.at0 hg.lt_size (Nat.le_refl _)
          have c_g1 := hg.at1 hg.lt_size (Nat.le_refl _)
          have c_g2 := hg.at2 hg.lt_size (Nat.le_refl _)
          have f_g0 := hg.free0 hg.lt_size (Nat.le_refl _)
          have f_g1 := hg.free1 hg.lt_size (Nat.le_refl _)
          have f_g2 := hg.free2 hg.lt_size (Nat.le_refl _)
          have l_g := hg.lt hg.lt_size (Nat.le_refl _)
          have RS := hide hI.out.num.rq
          have U0 : Below w5.heap.size w5 w5 := Below.refl _ _
          have hbx := Below.drw_ w5
          clear hg
          go_wp2_with fail
          go_region_with (go_at_call 28; refine (radd_q (RS.out.then_ hbx) (by omega) (RX.out.then_ hbx) (by omega) (Nat.le_refl _) (qs_succ q k).symm).mono ?_; rintro e w6 ⟨x6, rfl, R6, hb6⟩; have U6 : Below w5.heap.size w5 w6 := Below.then_ hbx hb6; have hN := hide ((SumQ.set hI.out U6 R6).le (M := 1048579 * (k + 1) + 3) (by omega)); clear hb6 R6)
          all_goals
            go_wp2
            go_roundw
            case rel => exact ⟨k + 1, x6, by omega, by go_num, hN, hpos2⟩
            case measure => simp [intOf]; omega
      · obtain rfl : k = n := by omega
        have hres := hide (vl_last hn'.out hpos.out)
        have f1 : Below wr.heap.size wr wr := Below.refl _ _
        have RS := hide hI.out.num.rq
        obtain ⟨cv, hcv⟩ : ∃ v, sgn (qs q k - 1).num = v := ⟨_, rfl⟩
        rw [hcv] at hres
        replace hcv := hide hcv
        have hbx := Below.drw_ wr
        clear hg f1
        go_wp2_with fail
        go_region_with (first | (go_at_call 26; refine (whole_q (m := 1) (q := 1) rfl (by omega) (by simp)).mono ?_; rintro e w7 ⟨x7, rfl, R7, hb7⟩; have hb8 : Below wr.heap.size wr w7 := Below.then_ hbx hb7; replace R7 := hide R7; clear hb7) | (go_at_call 29; refine (rcmp_q (RS.out.then_ hb8) (by omega) R7.out.rq (by omega) (Nat.le_refl _) hcv.out).mono ?_; rintro e w9 ⟨rfl, hb9⟩; have hend := hide (Below.then_ (Below.then_ hI.out.below hb8) hb9); clear hb9))
        all_goals
          go_wp2
          go_ret
          exact ⟨by rw [hres.out]; rfl, hend.out⟩
  · rw [vl_no fun h => hn h.1]
    have d0 : decide ((n : Int) < 1) = true ∨ (decide ((n : Int) < 1) = false ∧ decide ((121 : Int) < (n : Int)) = true) := by simp; omega
    clear hn
    rcases d0 with d0 | ⟨d0, d1⟩
    all_goals
      go_enter Tryz.func10, Tryz.ntmps10
      go_wp2
      go_ret
      exact ⟨rfl, B.out⟩
end

section
open Go.RowKit

theorem Rq.al_drew {w : World} {L : Nat} {x : Rc} {q : Rat} (h : Rq w.drew w.drew.heap.size L x q) (o : Obj) : Rq (w.alloc o).drew (w.alloc o).drew.heap.size L x q := Rq.al_ (w := w.drew) h o
theorem Nq.al_drew {w : World} {L : Nat} {x : Rc} {q : Rat} (h : Nq w.drew w.drew.heap.size L x q) (o : Obj) : Nq (w.alloc o).drew (w.alloc o).drew.heap.size L x q := Nq.al_ (w := w.drew) h o
/-- the box with the ratio in it -/
def LandN (W w' : World) (g L : Nat) (x : Rc) (q : Rat) : Prop :=
  Below W.heap.size W w' ∧ Box3 w' g (.bool x.s) (.slice x.A x.n x.c) (.slice x.B x.m x.d) ∧ Nq w' w'.heap.size L x q ∧ W.heap.size ≤ g
theorem LandN.below {W w' : World} {g L : Nat} {x : Rc} {q : Rat} (h : LandN W w' g L x q) : Below W.heap.size W w' := h.1
theorem landN_new {W w : World} {L : Nat} {x : Rc} {q : Rat} (h : Below W.heap.size W w) (R : Nq w w.heap.size L x q) : LandN W (w.alloc (.cells #[.bool x.s, .slice x.A x.n x.c, .slice x.B x.m x.d] 28)) w.heap.size L x q := ⟨Below.al_ h _, Box3.new w _ _ _ rfl, R.al_ _, h.size⟩
theorem landN_set {W w : World} {g L : Nat} {x : Rc} {q : Rat} (h : Below W.heap.size W w) (R : Nq w w.heap.size L x q) (X : XBox3 W w g) : LandN W (((w.setCell ⟨g, 0, none⟩ (.bool x.s)).setCell ⟨g, 1, none⟩ (.slice x.A x.n x.c)).setCell ⟨g, 2, none⟩ (.slice x.B x.m x.d)) g L x q := by
  obtain ⟨c0, c1, c2, _, _, _, _⟩ := X.facts
  exact ⟨((h.setCell X.2 _).setCell X.2 _).setCell X.2 _, Box3.set X.1 _ _ _, R.set3 (y := ⟨false, none, 0, 0, none, 0, 0⟩) c0 c1 c2 _ _ _, X.2⟩
theorem landN_late {W w : World} {L : Nat} {x : Rc} {q : Rat} (h : Below W.heap.size W w) (R : Nq w w.heap.size L x q) : LandN W ((((w.alloc (.cells #[.bool false, .slice none 0 0, .slice none 0 0] 28)).setCell ⟨w.heap.size, 0, none⟩ (.bool x.s)).setCell ⟨w.heap.size, 1, none⟩ (.slice x.A x.n x.c)).setCell ⟨w.heap.size, 2, none⟩ (.slice x.B x.m x.d)) w.heap.size L x q :=
  landN_set (Below.al_ h _) (R.al_ _) ⟨Box3.new w _ _ _ rfl, h.size⟩
/-- a sum in a box, beside the result's box -/
structure SumR (w wr : World) (L g : Nat) (y : Rc) (s : Rat) : Prop where
  sum : SumQ w wr L g y s
  res : Box3 wr w.heap.size (.bool false) (.slice none 0 0) (.slice none 0 0)
  lt : w.heap.size < g
theorem SumR.start {w w1 : World} {L : Nat} {y : Rc} {s : Rat} (hb : Below (w.alloc (.cells #[.bool false, .slice none 0 0, .slice none 0 0] 28)).heap.size (w.alloc (.cells #[.bool false, .slice none 0 0, .slice none 0 0] 28)) w1) (R : Nq w1 w1.heap.size L y s) :
    SumR w (w1.alloc (.cells #[.bool y.s, .slice y.A y.n y.c, .slice y.B y.m y.d] 28)) L w1.heap.size y s :=
  ⟨SumQ.start (Below.al_then hb) R, ((Box3.new w _ _ _ rfl).keep hb).al _, by have := hb.size; simp at this; omega⟩
theorem SumR.then_ {w wr w5 : World} {L g : Nat} {y : Rc} {s : Rat} (h : SumR w wr L g y s) (hb : Below wr.heap.size wr w5) : SumR w w5 L g y s := ⟨h.sum.then_ hb, h.res.keep hb, h.lt⟩
theorem SumR.le {w wr : World} {L M g : Nat} {y : Rc} {s : Rat} (h : SumR w wr L g y s) (hl : L ≤ M) : SumR w wr M g y s := ⟨h.sum.le hl, h.res, h.lt⟩
theorem SumR.set {w wr w5 : World} {L M g : Nat} {y z : Rc} {s r : Rat} (h : SumR w wr L g y s) (hb : Below wr.heap.size wr w5) (R : Nq w5 w5.heap.size M z r) :
    SumR w (((w5.setCell ⟨g, 0, none⟩ (.bool z.s)).setCell ⟨g, 1, none⟩ (.slice z.A z.n z.c)).setCell ⟨g, 2, none⟩ (.slice z.B z.m z.d)) M g z r :=
  have hne : w.heap.size ≠ g := Nat.ne_of_lt h.lt
  ⟨h.sum.set hb R, Box3.other (Box3.other (Box3.other (h.res.keep hb) hne _) hne _) hne _, h.lt⟩
theorem SumR.self {w wr : World} {L g : Nat} {y : Rc} {s : Rat} (_h : SumR w wr L g y s) : Below wr.heap.size wr wr := Below.refl _ _
/-- another box, that was made later -/
theorem SumR.beside {w wr : World} {L g h : Nat} {y z : Rc} {s : Rat} (hS : SumR w wr L g y s) {u : Rc} (hu : Box3 wr h (.bool u.s) (.slice u.A u.n u.c) (.slice u.B u.m u.d)) (hg : g < h) :
    SumR w (((wr.setCell ⟨h, 0, none⟩ (.bool z.s)).setCell ⟨h, 1, none⟩ (.slice z.A z.n z.c)).setCell ⟨h, 2, none⟩ (.slice z.B z.m z.d)) L g y s := by
  have c0 := hu.at0 hu.lt_size (Nat.le_refl _) _ (Below.refl _ _)
  have c1 := hu.at1 hu.lt_size (Nat.le_refl _) _ (Below.refl _ _)
  have c2 := hu.at2 hu.lt_size (Nat.le_refl _) _ (Below.refl _ _)
  have h1 := hS.lt
  have hge : w.heap.size ≤ h := by omega
  have ng : g ≠ h := by omega
  have nr : w.heap.size ≠ h := by omega
  exact ⟨⟨((hS.sum.below.setCell hge _).setCell hge _).setCell hge _, Box3.other (Box3.other (Box3.other hS.sum.box ng _) ng _) ng _, by simpa using hS.sum.num.set3 (y := u) c0 c1 c2 (.bool z.s) (.slice z.A z.n z.c) (.slice z.B z.m z.d), hS.sum.ge⟩,
    Box3.other (Box3.other (Box3.other hS.res nr _) nr _) nr _, hS.lt⟩
/-- the summand -/
def mq (d : Nat) (q : Nat → Rat) (i : Nat) : Rat := if d = 2 then q i * (i : Rat) * (i : Rat) else q i * (i : Rat)
set_option maxHeartbeats 8000000 in
set_option maxRecDepth 100000 in
theorem rmoment_q {nf : Nat → Bool} {w : World} {Bd n c : Nat} {A : Option Addr} {X : Nat → Rc} {q : Nat → Rat} {z : Int} {d : Nat} (hx : LQ nf w Bd 1048576 A n c X q) (hB : Bd ≤ w.heap.size) (hn : n ≤ 121) (hz : z = (d : Int)) (hd : d = 1 ∨ d = 2) :
    Calls Tryz.prog 25 #[.slice A n c, .int .i64 z] w (RetN w 126900000 (qs (mq d q) n)) := by
  subst hz
  have hcap := hx.cap
  have hcb := hx.cbig
  have HX := hide (hx.upto (Below.refl _ _) hB)
  have hmq := hide (show (((d : Int) == 2) = true ∧ d = 2) ∨ (((d : Int) == 2) = false ∧ d ≠ 2) from by
    rcases hd with h | h
    · exact Or.inr ⟨by subst h; rfl, by omega⟩
    · exact Or.inl ⟨by subst h; rfl, h⟩)
  clear hx hB hd
  go_enter Tryz.func25, Tryz.ntmps25
  go_wp2_with fail
  refine (whole_q (m := 0) (q := qs (mq d q) 0) rfl (by omega) (by simp [qs])).mono ?_
  rintro e w1 ⟨x1, rfl, R1, hb1⟩
  have hstart := hide (SumR.start hb1 R1)
  clear R1 hb1
  go_wp2
  generalize w1.heap.size = g at *
  go_loopw [6] (fun i wr => ∃ (k : Nat) (y : Rc), k ≤ n ∧ i = .int .i64 k ∧ Hid (SumR w wr (1048590 * k + 3) g y (qs (mq d q) k))) (fun i _ => n - (intOf i).toNat)
  case atStart => exact ⟨0, x1, Nat.zero_le _, rfl, hstart⟩
  case round =>
    obtain ⟨k, y, hk, rfl, hI⟩ := hrel
    clear hstart
    by_cases hkl : k < n
    · have HW := HX.out.then_ hI.out.sum.below
      obtain ⟨ad, hA, hab, e0, e1, e2⟩ := HW.at_ hkl
      subst hA
      have hk64 : (k : Int) < (n : Int) := by omega
      have E0 : ∀ w', Below wr.heap.size wr w' → w'.cell? (ad.add (k * 3)) = some (.bool (X k).s) := fun w' hb => (hb.cell (p := ad.add (k * 3)) (by rw [block_add]; exact hab)).trans e0
      have E1 : ∀ w', Below wr.heap.size wr w' → w'.cell? ⟨(ad.add (k * 3)).block, (ad.add (k * 3)).off + 1, none⟩ = some (.slice (X k).A (X k).n (X k).c) := fun w' hb => (hb.cell (p := ⟨(ad.add (k * 3)).block, (ad.add (k * 3)).off + 1, none⟩) (by show (ad.add (k * 3)).block < _; rw [block_add]; exact hab)).trans e1
      have E2 : ∀ w', Below wr.heap.size wr w' → w'.cell? ⟨(ad.add (k * 3)).block, (ad.add (k * 3)).off + 2, none⟩ = some (.slice (X k).B (X k).m (X k).d) := fun w' hb => (hb.cell (p := ⟨(ad.add (k * 3)).block, (ad.add (k * 3)).off + 2, none⟩) (by show (ad.add (k * 3)).block < _; rw [block_add]; exact hab)).trans e2
      clear e0 e1 e2
      have RX := hide (HW.nums k hkl).1
      have hbx := Below.drw_ wr
      have hs0 := hide (qs_succ (mq d q) k)
      clear HW
      go_wp2_with fail
      refine Code.wp_mono (Q := fun e a' w' => e = .normal ∧ ∃ (g5 : Nat) (x : Rc) (v15 v16 v17 v18 v19 v20 v21 : Value), a' = ⟨#[.slice (some ad) n c, .int .i64 (d : Int), undef, undef, .pointer (some ⟨w.heap.size, 0, none⟩), .pointer (some ⟨g, 0, none⟩), .int .i64 (k : Int), (.pointer (some ⟨g5, 0, none⟩)), .agg #[.bool x1.s, .slice x1.A x1.n x1.c, .slice x1.B x1.m x1.d], .int .i64 (k : Int), .slice (some ad) n c, .int .i64 (n : Int), .bool true, u13, u14, v15, v16, v17, v18, v19, v20, v21, u22, u23, u24, u25, u26, u27, u28, u29, u30, undef], []⟩ ∧ LandN wr w' g5 1048581 x (q k * (k : Rat))) ?_ ?_
      rotate_left
      · replace RX := hide (RX.out.then_ hbx)
        have U0 : Below wr.heap.size wr wr := Below.refl _ _
        have U1 : Below wr.heap.size wr wr.drew := hbx
        clear hbx
        have tok1 : True := trivial
        go_region_held3 (fun w' => Below wr.heap.size wr w') (first | (with_reducible assumption) | (with_reducible exact Below.al_ (by with_reducible assumption) _) | (with_reducible exact Below.al_drew (by with_reducible assumption) _) | (with_reducible exact (landN_new U3 R6.out).below) | (with_reducible exact (landN_set U3 R6.out X3.out).below) | (with_reducible exact (landN_late U3 R6.out).below))
          (first
            | (go_at_call 26; (have _t := tok1; (with_reducible refine (whole_q (m := k) rfl (by omega) rfl).mono ?_); rintro e w5 ⟨x5, rfl, R5, hb5⟩; have hb1 : Below wr.drew.heap.size wr.drew w5 := (by with_reducible first | exact hb5 | exact Below.al_then hb5 | exact Below.al_then_drew hb5); (first | (have X2 := hide (XBox3.made_drew U1 hb5)) | (have X2 := hide (XBox3.made U1 hb5)) | skip); replace RX := hide (RX.out.then_ hb1); have U2 : Below wr.heap.size wr w5 := Below.then_ U1 hb1; replace R5 := hide R5; clear hb5 hb1; have tok2 : True := trivial; clear _t tok1))
            | (go_at_call 35; (have _t := tok2; (with_reducible refine (rmul_q (by with_reducible first | exact RX.out | exact Rq.al_ RX.out _ | exact Rq.al_drew RX.out _) (by omega) (Nq.rq (by with_reducible first | exact R5.out | exact Nq.al_ R5.out _ | exact Nq.al_drew R5.out _)) (by omega) (Nat.le_refl _) rfl).mono ?_); rintro e w6 ⟨x6, rfl, R6, hb6⟩; have hb1 : Below w5.heap.size w5 w6 := (by with_reducible first | exact hb6 | exact Below.al_then hb6 | exact Below.al_then_drew hb6); (first | (have X3 := hide (XBox3.made_drew U2 hb6)) | (have X3 := hide (XBox3.made U2 hb6)) | (have X3 := hide (XBox3.keep X2.out hb1)) | skip); have U3 : Below wr.heap.size wr w6 := Below.then_ U2 hb1; replace R6 := hide R6; clear hb6 hb1; have tok3 : True := trivial; clear _t tok2; (first | (have xf := XBox3.facts X3.out; obtain ⟨xf0, xf1, xf2, xf3, xf4, xf5, xf6⟩ := xf) | skip))))
        all_goals (refine ⟨rfl, _, x6, _, _, _, _, _, _, _, rfl, ?_⟩; first | exact landN_new U3 R6.out | exact landN_set U3 R6.out X3.out | exact landN_late U3 R6.out)
      rintro e a' w7 ⟨rfl, g5, x5, v15, v16, v17, v18, v19, v20, v21, rfl, hb7, b5, R5, hg5⟩
      have hgg := hide (show g < g5 by have := hI.out.sum.box.lt_size; omega)
      have hX := hide (show SumQ w w7 1048581 g5 x5 (q k * (k : Rat)) from ⟨Below.then_ hI.out.sum.below hb7, b5, R5, Nat.le_trans hI.out.sum.below.size hg5⟩)
      replace hI := hide (hI.out.then_ hb7)
      clear hb7 b5 R5 hg5 E0 E1 E2 hbx
      rcases hmq.out with ⟨t2, hd2⟩ | ⟨t2, hd2⟩
      · replace hd2 := hide hd2
        have RX5 := hide hX.out.num.rq
        have hbx := Below.drw_ w7
        have hg_x := hX.out.box
        have c_x0 := hg_x.at0 hg_x.lt_size (Nat.le_refl _)
        have c_x1 := hg_x.at1 hg_x.lt_size (Nat.le_refl _)
        have c_x2 := hg_x.at2 hg_x.lt_size (Nat.le_refl _)
        have f_x0 := hg_x.free0 hg_x.lt_size (Nat.le_refl _)
        have f_x1 := hg_x.free1 hg_x.lt_size (Nat.le_refl _)
        have f_x2 := hg_x.free2 hg_x.lt_size (Nat.le_refl _)
        have l_x := hg_x.lt hg_x.lt_size (Nat.le_refl _)
        clear hg_x
        go_wp2_with fail
        go_region_with (first | (go_at_call 26; refine (whole_q (m := k) rfl (by omega) rfl).mono ?_; rintro e w8 ⟨x8, rfl, R8, hb8⟩; have U8 : Below w7.heap.size w7 w8 := Below.then_ hbx hb8; replace R8 := hide R8; clear hb8) | (go_at_call 35; refine (rmul_q (RX5.out.then_ U8) (by omega) R8.out.rq (by omega) (Nat.le_refl _) rfl).mono ?_; rintro e w9 ⟨x9, rfl, R9, hb9⟩; have U9 : Below w7.heap.size w7 w9 := Below.then_ U8 hb9; have hX2 := hide (SumQ.set hX.out U9 R9); have hI2 := hide (SumR.beside (z := x9) (hI.out.then_ U9) (hX.out.box.keep U9) hgg.out); clear hb9))
        all_goals
          clear c_x0 c_x1 c_x2 f_x0 f_x1 f_x2 l_x
          obtain ⟨V, hV⟩ : ∃ V, V = (((w9.setCell ⟨g5, 0, none⟩ (.bool x9.s)).setCell ⟨g5, 1, none⟩ (.slice x9.A x9.n x9.c)).setCell ⟨g5, 2, none⟩ (.slice x9.B x9.m x9.d)) := ⟨_, rfl⟩
          rw [← hV] at hX2 hI2 ⊢
          clear hV
          have hg_g := hI2.out.sum.box
          have c_g0 := hg_g.at0 hg_g.lt_size (Nat.le_refl _)
          have c_g1 := hg_g.at1 hg_g.lt_size (Nat.le_refl _)
          have c_g2 := hg_g.at2 hg_g.lt_size (Nat.le_refl _)
          have f_g0 := hg_g.free0 hg_g.lt_size (Nat.le_refl _)
          have f_g1 := hg_g.free1 hg_g.lt_size (Nat.le_refl _)
          have f_g2 := hg_g.free2 hg_g.lt_size (Nat.le_refl _)
          have l_g := hg_g.lt hg_g.lt_size (Nat.le_refl _)
          clear hg_g
          have hg_x := hX2.out.box
          have c_x0 := hg_x.at0 hg_x.lt_size (Nat.le_refl _)
          have c_x1 := hg_x.at1 hg_x.lt_size (Nat.le_refl _)
          have c_x2 := hg_x.at2 hg_x.lt_size (Nat.le_refl _)
          have f_x0 := hg_x.free0 hg_x.lt_size (Nat.le_refl _)
          have f_x1 := hg_x.free1 hg_x.lt_size (Nat.le_refl _)
          have f_x2 := hg_x.free2 hg_x.lt_size (Nat.le_refl _)
          have l_x := hg_x.lt hg_x.lt_size (Nat.le_refl _)
          clear hg_x
          have U0 := hI2.out.self
          have RS := hide hI2.out.sum.num.rq
          have RX6 := hide hX2.out.num.rq
          have hadd := hide (show qs (mq d q) k + q k * (k : Rat) * (k : Rat) = qs (mq d q) (k + 1) by rw [hs0.out]; congr 1; simp [mq, hd2.out])
          go_wp2_with fail
          refine (radd_q RS.out (by omega) RX6.out (by omega) (Nat.le_refl _) hadd.out).mono ?_
          rintro e w10 ⟨x10, rfl, R10, hb10⟩
          have hN := hide ((SumR.set hI2.out hb10 R10).le (M := 1048590 * (k + 1) + 3) (by omega))
          clear R10
          go_wp2
          go_roundw
          case rel => exact ⟨k + 1, x10, by omega, by go_num, hN⟩
          case measure => simp [intOf]; omega
      · replace hd2 := hide hd2
        have hg_g := hI.out.sum.box
        have c_g0 := hg_g.at0 hg_g.lt_size (Nat.le_refl _)
        have c_g1 := hg_g.at1 hg_g.lt_size (Nat.le_refl _)
        have c_g2 := hg_g.at2 hg_g.lt_size (Nat.le_refl _)
        have f_g0 := hg_g.free0 hg_g.lt_size (Nat.le_refl _)
        have f_g1 := hg_g.free1 hg_g.lt_size (Nat.le_refl _)
        have f_g2 := hg_g.free2 hg_g.lt_size (Nat.le_refl _)
        have l_g := hg_g.lt hg_g.lt_size (Nat.le_refl _)
        clear hg_g
        have hg_x := hX.out.box
        have c_x0 := hg_x.at0 hg_x.lt_size (Nat.le_refl _)
        have c_x1 := hg_x.at1 hg_x.lt_size (Nat.le_refl _)
        have c_x2 := hg_x.at2 hg_x.lt_size (Nat.le_refl _)
        have f_x0 := hg_x.free0 hg_x.lt_size (Nat.le_refl _)
        have f_x1 := hg_x.free1 hg_x.lt_size (Nat.le_refl _)
        have f_x2 := hg_x.free2 hg_x.lt_size (Nat.le_refl _)
        have l_x := hg_x.lt hg_x.lt_size (Nat.le_refl _)
        clear hg_x
        have U0 := hI.out.self
        have RS := hide hI.out.sum.num.rq
        have RX6 := hide hX.out.num.rq
        have hadd := hide (show qs (mq d q) k + q k * (k : Rat) = qs (mq d q) (k + 1) by rw [hs0.out]; congr 1; simp [mq, hd2.out])
        go_wp2_with fail
        refine (radd_q RS.out (by omega) RX6.out (by omega) (Nat.le_refl _) hadd.out).mono ?_
        rintro e w10 ⟨x10, rfl, R10, hb10⟩
        have hN := hide ((SumR.set hI.out hb10 R10).le (M := 1048590 * (k + 1) + 3) (by omega))
        clear R10
        go_wp2
        go_roundw
        case rel => exact ⟨k + 1, x10, by omega, by go_num, hN⟩
        case measure => simp [intOf]; omega
    · obtain rfl : k = n := by omega
      have U0 : Below wr.heap.size wr wr := Below.refl _ _
      have hg_g := hI.out.sum.box
      have c_g0 := hg_g.at0 hg_g.lt_size (Nat.le_refl _)
      have c_g1 := hg_g.at1 hg_g.lt_size (Nat.le_refl _)
      have c_g2 := hg_g.at2 hg_g.lt_size (Nat.le_refl _)
      have f_g0 := hg_g.free0 hg_g.lt_size (Nat.le_refl _)
      have f_g1 := hg_g.free1 hg_g.lt_size (Nat.le_refl _)
      have f_g2 := hg_g.free2 hg_g.lt_size (Nat.le_refl _)
      have l_g := hg_g.lt hg_g.lt_size (Nat.le_refl _)
      clear hg_g
      have hg_r := hI.out.res
      have c_r0 := hg_r.at0 hg_r.lt_size (Nat.le_refl _)
      have c_r1 := hg_r.at1 hg_r.lt_size (Nat.le_refl _)
      have c_r2 := hg_r.at2 hg_r.lt_size (Nat.le_refl _)
      have f_r0 := hg_r.free0 hg_r.lt_size (Nat.le_refl _)
      have f_r1 := hg_r.free1 hg_r.lt_size (Nat.le_refl _)
      have f_r2 := hg_r.free2 hg_r.lt_size (Nat.le_refl _)
      have l_r := hg_r.lt hg_r.lt_size (Nat.le_refl _)
      clear hg_r
      go_wp2
      exact bodyPost_ret (v := .agg #[.bool y.s, .slice y.A y.n y.c, .slice y.B y.m y.d]) (by simp [results, Tryz.results25, go_sem, c_r0 _ U0, c_r1 _ U0, c_r2 _ U0]) rfl (RetN.box hI.out.sum.below (Nat.le_refl _) (c_r0 _ U0) (c_r1 _ U0) (c_r2 _ U0) (hI.out.sum.num.le (by omega)))
end

section
open Go.RowKit

theorem same_c {w : World} {Bd Bd' : Nat} {A A' : Option Addr} {n c n' c' : Nat} {xs : List Nat} (hx : Rd w Bd A n c xs) (hy : Rd w Bd' A' n' c' xs) : Calls Tryz.prog 31 #[.slice A n c, .slice A' n' c'] w (RetB w (.bool true)) :=
  (same_true w Bd Bd' A A' n c n' c' xs xs hx hy rfl).mono fun e w' ⟨h1, q, h2⟩ => ⟨h1, by rw [h2]; exact below_drewN (Below.refl _ _) q⟩
set_option maxHeartbeats 4000000 in
theorem sameint_c {w : World} {Bd : Nat} {A A' : Option Addr} {n c n' c' : Nat} {xs : List Nat} {s : Bool} (hx : Rd w Bd A n c xs) (hy : Rd w Bd A' n' c' xs) (hB : Bd ≤ w.heap.size) :
    Calls Tryz.prog 30 #[.agg #[.bool s, .slice A n c], .agg #[.bool s, .slice A' n' c']] w (RetB w (.bool true)) := by
  obtain ⟨W, hW⟩ : ∃ W, W = ((w.alloc (.cells #[.bool s, .slice A n c] 26)).alloc (.cells #[.bool s, .slice A' n' c'] 26)) := ⟨_, rfl⟩
  have b_a : Box W (w.heap.size) (.bool s) (.slice A n c) := by rw [hW]; exact ((Box.new w _ _ rfl).al _)
  have b_b : Box W (w.heap.size + 1) (.bool s) (.slice A' n' c') := by rw [hW]; exact (Box.new _ _ _ (by simp))
  have hwW : Below w.heap.size w W := by rw [hW]; exact (((Below.refl _ _).alloc (Nat.le_refl _) _).alloc (by simp) _)
  have U0 : Below W.heap.size W W := Below.refl _ _
  have c_a0 := b_a.at0 b_a.lt_size (Nat.le_refl _)
  have c_a1 := b_a.at1 b_a.lt_size (Nat.le_refl _)
  clear b_a
  have c_b0 := b_b.at0 b_b.lt_size (Nat.le_refl _)
  have c_b1 := b_b.at1 b_b.lt_size (Nat.le_refl _)
  clear b_b
  have R_a := hide (Rd.upto hx hwW hB)
  have R_b := hide (Rd.upto hy hwW hB)
  have B := hide hwW
  clear hx hy hwW hB
  go_enter Tryz.func30, Tryz.ntmps30
  go_wp2_with fail
  rw [← hW]
  clear hW
  refine (same_c R_a.out R_b.out).mono ?_
  rintro e w1 ⟨rfl, hb⟩
  replace B := hide (Below.then_ B.out hb)
  clear hb
  go_wp2
  go_ret
  exact ⟨rfl, B.out⟩
/-- two ratios of the same sign and limbs -/
def Alike3 (w : World) (Bd : Nat) (x y : Rc) : Prop := x.s = y.s ∧ ∃ xs ys, Rd w Bd x.A x.n x.c xs ∧ Rd w Bd y.A y.n y.c xs ∧ Rd w Bd x.B x.m x.d ys ∧ Rd w Bd y.B y.m y.d ys
theorem Alike3.of_nq {w : World} {Bd L M : Nat} {x y : Rc} {q : Rat} (hx : Nq w Bd L x q) (hy : Nq w Bd M y q) : Alike3 w Bd x y := ⟨by rw [hx.1, hy.1], _, _, hx.2.1, hy.2.1, hx.2.2.1, hy.2.2.1⟩
theorem Alike3.upto {w w' : World} {Bd : Nat} {x y : Rc} (h : Alike3 w Bd x y) (hb : Below w.heap.size w w') (hB : Bd ≤ w.heap.size) : Alike3 w' w'.heap.size x y := by
  obtain ⟨h0, xs, ys, h1, h2, h3, h4⟩ := h
  exact ⟨h0, xs, ys, h1.upto hb hB, h2.upto hb hB, h3.upto hb hB, h4.upto hb hB⟩
set_option maxHeartbeats 4000000 in
theorem sameratio_c {w : World} {Bd : Nat} {x y : Rc} (h : Alike3 w Bd x y) (hB : Bd ≤ w.heap.size) :
    Calls Tryz.prog 11 #[.agg #[.bool x.s, .slice x.A x.n x.c, .slice x.B x.m x.d], .agg #[.bool y.s, .slice y.A y.n y.c, .slice y.B y.m y.d]] w (RetB w (.bool true)) := by
  obtain ⟨s, A, n, c, A2, m, d⟩ := x
  obtain ⟨s', A', n', c', A2', m', d'⟩ := y
  obtain ⟨h0, xs, ys, h1, h2, h3, h4⟩ := h
  simp only at h0 h1 h2 h3 h4 ⊢
  subst h0
  obtain ⟨W, hW⟩ : ∃ W, W = ((w.alloc (.cells #[.bool s, .slice A n c, .slice A2 m d] 28)).alloc (.cells #[.bool s, .slice A' n' c', .slice A2' m' d'] 28)) := ⟨_, rfl⟩
  have b_a : Box3 W (w.heap.size) (.bool s) (.slice A n c) (.slice A2 m d) := by rw [hW]; exact ((Box3.new w _ _ _ rfl).al _)
  have b_b : Box3 W (w.heap.size + 1) (.bool s) (.slice A' n' c') (.slice A2' m' d') := by rw [hW]; exact (Box3.new _ _ _ _ (by simp))
  have hwW : Below w.heap.size w W := by rw [hW]; exact (((Below.refl _ _).alloc (Nat.le_refl _) _).alloc (by simp) _)
  have U0 : Below W.heap.size W W := Below.refl _ _
  have c_a0 := b_a.at0 b_a.lt_size (Nat.le_refl _)
  have c_a1 := b_a.at1 b_a.lt_size (Nat.le_refl _)
  have c_a2 := b_a.at2 b_a.lt_size (Nat.le_refl _)
  clear b_a
  have c_b0 := b_b.at0 b_b.lt_size (Nat.le_refl _)
  have c_b1 := b_b.at1 b_b.lt_size (Nat.le_refl _)
  have c_b2 := b_b.at2 b_b.lt_size (Nat.le_refl _)
  clear b_b
  have R_a := hide (Rd.upto h1 hwW hB)
  have R_b := hide (Rd.upto h2 hwW hB)
  have S_a := hide (Rd.upto h3 hwW hB)
  have S_b := hide (Rd.upto h4 hwW hB)
  have B := hide hwW
  clear h1 h2 h3 h4 hwW hB
  go_enter Tryz.func11, Tryz.ntmps11
  go_wp2_with fail
  rw [← hW]
  clear hW
  refine (sameint_c R_a.out R_b.out (Nat.le_refl _)).mono ?_
  rintro e w1 ⟨rfl, hb⟩
  replace B := hide (Below.then_ B.out hb)
  replace S_a := hide (Rd.then_ S_a.out hb)
  replace S_b := hide (Rd.then_ S_b.out hb)
  have U1 : Below W.heap.size W w1 := Below.then_ U0 hb
  clear hb R_a R_b
  go_wp2_with fail
  refine (same_c S_a.out S_b.out).mono ?_
  rintro e w2 ⟨rfl, hb⟩
  replace B := hide (Below.then_ B.out hb)
  clear hb
  go_wp2
  go_ret
  exact ⟨rfl, B.out⟩
theorem LQ.all {nf : Nat → Bool} {w : World} {L n c : Nat} {A : Option Addr} {X : Nat → Rc} {q : Nat → Rat} (h : LQ nf w w.heap.size L A n c X q) {i : Nat} (hi : i < n) : ∃ ad, A = some ad ∧ ad.block < w.heap.size ∧ (∀ w', Below w.heap.size w w' → w'.cell? (ad.add (i * 3)) = some (.bool (X i).s)) ∧
    (∀ w', Below w.heap.size w w' → w'.cell? ⟨(ad.add (i * 3)).block, (ad.add (i * 3)).off + 1, none⟩ = some (.slice (X i).A (X i).n (X i).c)) ∧ (∀ w', Below w.heap.size w w' → w'.cell? ⟨(ad.add (i * 3)).block, (ad.add (i * 3)).off + 2, none⟩ = some (.slice (X i).B (X i).m (X i).d)) := by
  obtain ⟨ad, e, hab, e0, e1, e2⟩ := h.at_ hi
  have hb' : (ad.add (i * 3)).block < w.heap.size := by rw [block_add]; exact hab
  exact ⟨ad, e, hab, fun w' hb => (hb.cell (p := ad.add (i * 3)) hb').trans e0, fun w' hb => (hb.cell (p := ⟨(ad.add (i * 3)).block, (ad.add (i * 3)).off + 1, none⟩) hb').trans e1, fun w' hb => (hb.cell (p := ⟨(ad.add (i * 3)).block, (ad.add (i * 3)).off + 2, none⟩) hb').trans e2⟩
set_option maxHeartbeats 8000000 in
set_option maxRecDepth 100000 in
theorem samelist_c {w : World} {Bd L M n c c' : Nat} {A A' : Option Addr} {X Y : Nat → Rc} {q r : Nat → Rat} (hx : LQ (fun _ => true) w Bd L A n c X q) (hy : LQ (fun _ => true) w Bd M A' n c' Y r) (hB : Bd ≤ w.heap.size) (hq : ∀ i, i < n → q i = r i) (hn : n ≤ 1000000) :
    Calls Tryz.prog 17 #[.slice A n c, .slice A' n c'] w (RetB w (.bool true)) := by
  have hcap := hx.cap
  have hcb := hx.cbig
  have hcap' := hy.cap
  have hcb' := hy.cbig
  have HX := hide (hx.upto (Below.refl _ _) hB)
  have HY := hide (hy.upto (Below.refl _ _) hB)
  have B := hide (Below.refl w.heap.size w)
  replace hq := hide hq
  clear hx hy hB
  go_enter Tryz.func17, Tryz.ntmps17
  go_wp2
  go_loopw [5] (fun i wr => ∃ (k : Nat), k ≤ n ∧ i = .int .i64 k ∧ Hid (Below w.heap.size w wr)) (fun i _ => n - (intOf i).toNat)
  case atStart => exact ⟨0, Nat.zero_le _, rfl, B⟩
  case round =>
    obtain ⟨k, hk, rfl, B2⟩ := hrel
    clear B
    by_cases hkl : k < n
    · have HW := HX.out.then_ B2.out
      have HV := HY.out.then_ B2.out
      obtain ⟨ad, hA, hab, E0, E1, E2⟩ := HW.all hkl
      obtain ⟨ad', hA', hab', F0, F1, F2⟩ := HV.all hkl
      subst hA hA'
      have hk64 : (k : Int) < (n : Int) := by omega
      have hal := hide (Alike3.of_nq ((HW.nums k hkl).nq) (by have h := (HV.nums k hkl).nq; rw [← hq.out k hkl] at h; exact h))
      have hbx := Below.drw_ wr
      clear HW HV hab hab'
      go_wp2_with fail
      go_region_with (go_at_call 11; refine (sameratio_c (hal.out.upto hbx (Nat.le_refl _)) (Nat.le_refl _)).mono ?_; rintro e w6 ⟨rfl, hb6⟩; have hN := hide (Below.then_ B2.out (Below.then_ hbx hb6)); clear hb6)
      all_goals
        go_wp2
        go_roundw
        case rel => exact ⟨k + 1, by omega, by go_num, hN⟩
        case measure => simp [intOf]; omega
    · obtain rfl : k = n := by omega
      go_wp2
      go_ret
      exact ⟨rfl, B2.out⟩
end

section
open Go.RowKit

/-- no more than n elements -/
def ex (n : Nat) (q : Nat → Rat) (i : Nat) : Rat := if i < n then q i else 0
/-- the sum of the first j products for element k -/
def pt (na nb : Nat) (a b : Nat → Rat) (k j : Nat) : Rat := qs (fun i => ex na a i * ex nb b (k - i)) j
theorem pt_in {na nb : Nat} {a b : Nat → Rat} {k j : Nat} (hj : j < na) (hk : k - j < nb) : pt na nb a b k j + a j * b (k - j) = pt na nb a b k (j + 1) := by
  rw [pt, pt, qs_succ]
  simp [ex, hj, hk]
theorem pt_out {na nb : Nat} {a b : Nat → Rat} {k j : Nat} (hk : ¬ k - j < nb) : pt na nb a b k j = pt na nb a b k (j + 1) := by
  rw [pt, pt, qs_succ]
  simp only [ex, if_neg hk]
  grind
theorem pt_end {na nb : Nat} {a b : Nat → Rat} {k j : Nat} (h : j = k + 1 ∨ (j = na ∧ j ≤ k + 1)) : pt na nb a b k j = cv (ex na a) (ex nb b) k := by
  unfold pt cv
  rcases h with rfl | ⟨rfl, h⟩
  · rfl
  · symm
    exact qs_tail h fun i h1 _ => by simp [ex, show ¬ i < j by omega]
theorem upd_upd {α : Type} (X : Nat → α) (k : Nat) (x y : α) : upd (upd X k x) k y = upd X k y := by
  funext i
  unfold upd
  split <;> rfl
theorem upd_self {α : Type} (X : Nat → α) (k : Nat) : upd X k (X k) = X := by
  funext i
  unfold upd
  split
  · rename_i h; rw [h]
  · rfl
theorem OwnQ.all {nf : Nat → Bool} {w : World} {B L n c g k : Nat} {X : Nat → Rc} {q : Nat → Rat} (h : OwnQ nf w B L (.slice (some ⟨g, 0, none⟩) n c) n X q) (hk : k < n) :
    (∀ w', Below w.heap.size w w' → w'.cell? ⟨g, k * 3, none⟩ = some (.bool (X k).s)) ∧ (∀ w', Below w.heap.size w w' → w'.cell? ⟨g, k * 3 + 1, none⟩ = some (.slice (X k).A (X k).n (X k).c)) ∧ (∀ w', Below w.heap.size w w' → w'.cell? ⟨g, k * 3 + 2, none⟩ = some (.slice (X k).B (X k).m (X k).d)) ∧
    (∀ j w', Below w.heap.size w w' → w'.frozen? ⟨g, j, none⟩ = false) ∧ (∀ w', Below w.heap.size w w' → g < w'.heap.size) :=
  ⟨fun _ hb => ((h.then_ hb).cell hk).1, fun _ hb => ((h.then_ hb).cell hk).2.1, fun _ hb => ((h.then_ hb).cell hk).2.2, fun j _ hb => (h.then_ hb).frozen j, fun _ hb => Nat.lt_of_lt_of_le (h.lt rfl).2 hb.size⟩
set_option maxHeartbeats 8000000 in
set_option maxRecDepth 100000 in
theorem rproduct_q {mf nf : Nat → Bool} {w : World} {Bd La Lb na nb ca cb : Nat} {A A' : Option Addr} {X Y : Nat → Rc} {a b : Nat → Rat} (hx : LQ mf w Bd La A na ca X a) (hy : LQ nf w Bd Lb A' nb cb Y b) (hB : Bd ≤ w.heap.size)
    (ha : 1 ≤ na ∧ na ≤ 121) (hb0 : 1 ≤ nb ∧ nb ≤ 121) (hL : (La + Lb + 5) * 121 + 3 ≤ 400000000) :
    Calls Tryz.prog 53 #[.slice A na ca, .slice A' nb cb] w (fun e w' => ∃ (g : Nat) (Z : Nat → Rc) (z : Nat → Rat), e = .returned (.slice (some ⟨g, 0, none⟩) (na + nb - 1) (na + nb - 1)) ∧ OwnQ (fun _ => true) w' w.heap.size ((La + Lb + 5) * 121 + 3) (.slice (some ⟨g, 0, none⟩) (na + nb - 1) (na + nb - 1)) (na + nb - 1) Z z ∧ (∀ i, i < na + nb - 1 → z i = cv (ex na a) (ex nb b) i) ∧ Below w.heap.size w w') := by
  obtain ⟨N, hN⟩ : ∃ N, N = na + nb - 1 := ⟨_, rfl⟩
  obtain ⟨LL, hLL⟩ : ∃ LL, LL = (La + Lb + 5) * 121 + 3 := ⟨_, rfl⟩
  rw [← hN, ← hLL]
  have hNi : (na : Int) + (nb : Int) - 1 = (N : Int) := by omega
  have hcap := hx.cap
  have hcb := hx.cbig
  have hcap' := hy.cap
  have hcb' := hy.cbig
  have HX := hide (hx.upto (Below.refl _ _) hB)
  have HY := hide (hy.upto (Below.refl _ _) hB)
  have B := hide (Below.refl w.heap.size w)
  have hNh := hide hN
  have hLh := hide hLL
  have hL4 : LL ≤ 400000000 := by rw [hLL]; exact hL
  have hna := ha.2
  have hnb := hb0.2
  have hN240 : N ≤ 241 := by omega
  clear hx hy hB hL hLL hN
  go_enter Tryz.func53, Tryz.ntmps53
  go_wp2_with (at_make; refine wpList_make_rats rfl _ _ rfl _ _ _ _ N rfl rfl rfl rfl (by omega) w.heap.size LL (Nat.le_refl _) ?_; intro w3 hO hb)
  replace B := hide (Below.then_ B.out hb)
  have hO' := hide (hO.congr (mf := fun i => decide (i < 0)) (fun _ _ => rfl) (fun _ _ => rfl) (fun i _ h => by simp at h))
  clear hb hO
  go_wp2
  go_loopw [6] (fun i wr => ∃ (k : Nat) (Z : Nat → Rc) (z : Nat → Rat), k ≤ N ∧ i = .int .i64 k ∧ Hid (OwnQ (fun i => decide (i < k)) wr w.heap.size LL (.slice (some ⟨w.heap.size, 0, none⟩) N N) N Z z) ∧ Hid (∀ i, i < k → z i = cv (ex na a) (ex nb b) i) ∧ Hid (Below w.heap.size w wr)) (fun i _ => N - (intOf i).toNat)
  case atStart => exact ⟨0, _, _, Nat.zero_le _, rfl, hO', hide fun i hi => by omega, B⟩
  case round =>
    obtain ⟨k, Z, z, hk, rfl, hZ, hz, B2⟩ := hrel
    clear B hO'
    by_cases hkl : k < N
    · have hk64 : (k : Int) < (N : Int) := by omega
      obtain ⟨G0, G1, G2, G3, G4⟩ := hZ.out.all hkl
      go_wp2_with fail
      refine (whole_q (m := 0) (q := pt na nb a b k 0) rfl (by omega) (by simp [pt, qs])).mono ?_
      rintro e w4 ⟨x4, rfl, R4, hb4⟩
      have G30 := G3 (k * 3) w4 hb4
      have G31 := G3 (k * 3 + 1) w4 hb4
      have G32 := G3 (k * 3 + 2) w4 hb4
      have G0' := G0 w4 hb4
      have G1' := G1 w4 hb4
      have G2' := G2 w4 hb4
      have G4' := G4 w4 hb4
      have hZ4 := hZ.out.then_ hb4
      have hS := hide (hZ4.set hkl (Pq.of_nq (nf := true) (R4.le (M := LL) (by have := hLh.out; omega))))
      have R4' := hide (R4.grownQ (row := some w.heap.size) hZ4.noU (set3_grown w4 w.heap.size k x4))
      have B4 := hide (hZ4.below (set3_grown w4 w.heap.size k x4) (Below.then_ B2.out hb4) (Below.then_ B2.out hb4).size)
      clear G0 G1 G2 G3 G4 hZ4 R4 B2 hZ hb4
      go_wp2
      obtain ⟨nfk, hnf⟩ : ∃ nfk, nfk = upd (fun i => decide (i < k)) k true := ⟨_, rfl⟩
      rw [← hnf] at hS
      have hnf' := hide hnf
      clear hnf G30 G31 G32 G0' G1' G2' G4'
      go_loopw [7] (fun jv wr => ∃ (j : Nat) (y : Rc), j ≤ k + 1 ∧ j ≤ na ∧ jv = .int .i64 j ∧ Hid (OwnQ nfk wr w.heap.size LL (.slice (some ⟨w.heap.size, 0, none⟩) N N) N (upd Z k y) (upd z k (pt na nb a b k j))) ∧ Hid (Nq wr wr.heap.size ((La + Lb + 5) * j + 3) y (pt na nb a b k j)) ∧ Hid (Below w.heap.size w wr)) (fun jv _ => k + 1 - (intOf jv).toNat)
      case atStart => exact ⟨0, x4, by omega, by omega, rfl, hS, hide (R4'.out.le (by omega)), B4⟩
      case round =>
        obtain ⟨j, y, hjk, hjn, rfl, hOw, RY, B5⟩ := hrel
        clear hS R4' B4
        by_cases hgo : j ≤ k ∧ j < na
        · have t0 : decide ((j : Int) ≤ (k : Int)) = true := by simp; omega
          have t1 : decide ((j : Int) < (na : Int)) = true := by simp; omega
          have t2 : decide (j ≤ k) = true := by simp; omega
          have t3 : decide (j < na) = true := by simp; omega
          obtain ⟨p, hp⟩ : ∃ p, p = k - j := ⟨_, rfl⟩
          have hsub : (k : Int) - (j : Int) = (p : Int) := by omega
          have hph := hide hp
          have hj1 : j < na := hgo.2
          have hj2 : j ≤ k := hgo.1
          have hsz := hide (show (La + Lb + 5) * (j + 1) = (La + Lb + 5) * j + (La + Lb + 5) ∧ (La + Lb + 5) * (j + 1) ≤ (La + Lb + 5) * 121 from ⟨Nat.mul_succ _ _, Nat.mul_le_mul_left _ (by omega)⟩)
          clear hgo hp
          by_cases hpn : p < nb
          · have t4 : decide ((p : Int) < (nb : Int)) = true := by simp; omega
            have t5 : decide (p < nb) = true := by simp; omega
            have hj64 : (j : Int) < (na : Int) := by omega
            have hp64 : (p : Int) < (nb : Int) := by omega
            have hw : IntKind.i64.wrap ((k : Int) - (j : Int)) = (p : Int) := by rw [IntKind.wrap_i64]; omega
            have hwp : IntKind.i64.wrap (p : Int) = (p : Int) := by rw [IntKind.wrap_i64]; omega
            have hp0 : (0 : Int) ≤ (p : Int) := by omega
            have hpt2 : ((p : Int)).toNat = p := by omega
            have hpt := hide (show pt na nb a b k j + a j * b p = pt na nb a b k (j + 1) by rw [hph.out]; exact pt_in hj1 (by rw [← hph.out]; exact hpn))
            obtain ⟨G0, G1, G2, G3, G4⟩ := hOw.out.all hkl
            rw [upd_same] at G0 G1 G2
            have HW := HX.out.then_ B5.out
            have HV := HY.out.then_ B5.out
            obtain ⟨ad, hA, hab, E0, E1, E2⟩ := HW.all hj1
            obtain ⟨ad', hA', hab', F0, F1, F2⟩ := HV.all hpn
            subst hA hA'
            have RA := hide (HW.nums j hj1).1
            have RB := hide (HV.nums p hpn).1
            have RS := hide RY.out.rq
            have hbx := Below.drw_ wr
            clear HW HV hab hab'
            go_wp2_with fail
            go_region_with (first | (go_at_call 35; refine (rmul_q (RA.out.then_ hbx) (by have := hLh.out; omega) (RB.out.then_ hbx) (by have := hLh.out; omega) (Nat.le_refl _) rfl).mono ?_; rintro e w8 ⟨x8, rfl, R8, hb8⟩; have U8 : Below wr.heap.size wr w8 := Below.then_ hbx hb8; replace R8 := hide R8; clear hb8) | (go_at_call 28; refine (radd_q (RS.out.then_ U8) (by have := hsz.out; have := hLh.out; omega) R8.out.rq (by have := hLh.out; omega) (Nat.le_refl _) hpt.out).mono ?_; rintro e w9 ⟨x9, rfl, R9, hb9⟩; have U9 : Below wr.heap.size wr w9 := Below.then_ U8 hb9; have hO9 := hide (hOw.out.then_ U9); have hS2 := hide (hO9.out.set hkl (Pq.of_nq (nf := true) (R9.le (M := LL) (by have := hsz.out; have := hLh.out; omega)))); have RY2 := hide ((R9.grownQ (row := some w.heap.size) hO9.out.noU (set3_grown w9 w.heap.size k x9)).le (M := (La + Lb + 5) * (j + 1) + 3) (by have := hsz.out; omega)); have B6 := hide (hO9.out.below (set3_grown w9 w.heap.size k x9) (Below.then_ B5.out U9) (Below.then_ B5.out U9).size); clear hb9 R9))
            all_goals
              rw [upd_upd, upd_upd] at hS2
              clear G0 G1 G2 G3 G4 E0 E1 E2 F0 F1 F2
              go_wp2
              go_roundw
              case rel => exact ⟨j + 1, x9, by omega, by omega, by go_num, hide (hS2.out.congr (fun _ _ => rfl) (fun _ _ => rfl) (fun i _ h => by
                unfold upd
                split
                · rfl
                · exact h)), RY2, B6⟩
              case measure => simp [intOf]; omega
          · have t4 : decide ((p : Int) < (nb : Int)) = false := by simp; omega
            have t5 : decide (p < nb) = false := by simp; omega
            have hpt := hide (show pt na nb a b k j = pt na nb a b k (j + 1) from pt_out (by rw [← hph.out]; exact hpn))
            rw [hpt.out] at hOw RY
            replace RY := hide (RY.out.le (M := (La + Lb + 5) * (j + 1) + 3) (by have := hsz.out; omega))
            go_wp2
            go_roundw
            case rel => exact ⟨j + 1, y, by omega, by omega, by go_num, hOw, RY, B5⟩
            case measure => simp [intOf]; omega
        · have hend := hide (pt_end (na := na) (nb := nb) (a := a) (b := b) (k := k) (j := j) (by omega))
          rw [hend.out] at hOw
          have hz2 := hide (show ∀ i, i < k + 1 → upd z k (cv (ex na a) (ex nb b) k) i = cv (ex na a) (ex nb b) i from fun i hi => by
            by_cases e : i = k
            · subst e; rw [upd_same]
            · rw [upd_ne e]; exact hz.out i (by omega))
          have hO2 := hide (hOw.out.congr (mf := fun i => decide (i < k + 1)) (fun _ _ => rfl) (fun _ _ => rfl) (fun i _ h => by
            rw [hnf'.out]
            unfold upd
            split
            · rfl
            · simp at h ⊢; omega))
          have t0 : (decide ((j : Int) ≤ (k : Int)) = false ∧ decide (j ≤ k) = false) ∨ (decide ((j : Int) ≤ (k : Int)) = true ∧ decide (j ≤ k) = true ∧ decide ((j : Int) < (na : Int)) = false ∧ decide (j < na) = false) := by simp; omega
          clear hgo
          rcases t0 with ⟨t0, t1⟩ | ⟨t0, t1, t2, t3⟩
          all_goals
            go_wp2
            go_roundw
            case rel => exact ⟨k + 1, _, _, by omega, by go_num, hO2, hz2, B5⟩
            case measure => simp [intOf]; omega
    · obtain rfl : k = N := by omega
      have hfin := hide (hZ.out.congr (mf := fun _ => true) (fun _ _ => rfl) (fun _ _ => rfl) (fun i hi _ => by simpa using hi))
      go_wp2
      go_ret
      exact ⟨_, _, _, rfl, hfin.out, hz.out, B2.out⟩
end

section
open Go.RowKit

theorem vl_len {n : Nat} {q : Nat → Rat} (h : vlB n q = true) : VldQ n q := by
  by_cases e : VldQ n q
  · exact e
  · rw [vl_no e] at h; cases h
/-- a list and an error were handed back -/
def RetLE (w : World) (L n : Nat) (z : Nat → Rat) (k : Int) (e : Ending) (w' : World) : Prop :=
  ∃ (A : Option Addr) (c : Nat) (Z : Nat → Rc) (y : Nat → Rat), e = .returned (.tuple #[.slice A n c, .int .i64 k]) ∧ LQ (fun _ => true) w' w'.heap.size L A n c Z y ∧ (∀ i, i < n → y i = z i) ∧ Below w.heap.size w w'
theorem le_nil {w w' : World} {L : Nat} {z : Nat → Rat} {k : Int} (B : Below w.heap.size w w') : RetLE w L 0 z k (.returned (.tuple #[.slice none 0 0, .int .i64 k])) w' :=
  ⟨none, 0, fun _ => zeroRc, fun _ => 0, rfl, LQ.empty _ _ _ _ _ (by omega) _ _, fun i hi => by omega, B⟩
/-- Convolve's error and length -/
def cvK (ra rb : Bool) (na nb : Nat) : Int × Nat := if ra = true ∧ rb = true then (if 121 < na + nb - 1 then (5, 0) else (0, na + nb - 1)) else (1, 0)
set_option maxHeartbeats 8000000 in
set_option maxRecDepth 100000 in
theorem rconvolve_q {mf nf : Nat → Bool} {w : World} {Bd na nb ca cb : Nat} {A A' : Option Addr} {X Y : Nat → Rc} {a b : Nat → Rat} (hx : LQ mf w Bd 1048576 A na ca X a) (hy : LQ nf w Bd 1048576 A' nb cb Y b) (hB : Bd ≤ w.heap.size)
    {ra rb : Bool} (hra : vlB na a = ra) (hrb : vlB nb b = rb) {k : Int} {n : Nat} (hk : cvK ra rb na nb = (k, n)) :
    Calls Tryz.prog 21 #[.slice A na ca, .slice A' nb cb] w (RetLE w 254000000 n (cv (ex na a) (ex nb b)) k) := by
  have hcap := hx.cap
  have hcb := hx.cbig
  have hcap' := hy.cap
  have hcb' := hy.cbig
  have HX := hide (hx.upto (Below.refl _ _) hB)
  have HY := hide (hy.upto (Below.refl _ _) hB)
  have B := hide (Below.refl w.heap.size w)
  have hrah := hide hra
  have hrbh := hide hrb
  clear hx hy hB
  cases ra with
  | false =>
    simp [cvK] at hk
    obtain ⟨rfl, rfl⟩ := hk
    clear hra hrb
    go_enter Tryz.func21, Tryz.ntmps21
    go_wp2_with fail
    refine (rvalid_q HX.out (Nat.le_refl _)).mono ?_
    rw [hrah.out]
    rintro e w1 ⟨rfl, hb⟩
    replace B := hide (Below.then_ B.out hb)
    clear hb
    go_wp2
    go_ret2
    exact le_nil B.out
  | true =>
    cases rb with
    | false =>
      simp [cvK] at hk
      obtain ⟨rfl, rfl⟩ := hk
      clear hra hrb
      go_enter Tryz.func21, Tryz.ntmps21
      go_wp2_with fail
      refine (rvalid_q HX.out (Nat.le_refl _)).mono ?_
      rw [hrah.out]
      rintro e w1 ⟨rfl, hb⟩
      replace B := hide (Below.then_ B.out hb)
      replace HY := hide (HY.out.then_ hb)
      clear hb
      go_wp2_with fail
      refine (rvalid_q HY.out (Nat.le_refl _)).mono ?_
      rw [hrbh.out]
      rintro e w2 ⟨rfl, hb⟩
      replace B := hide (Below.then_ B.out hb)
      clear hb
      go_wp2
      go_ret2
      exact le_nil B.out
    | true =>
      have h1 := (vl_len hra).1
      have h2 := (vl_len hrb).1
      by_cases hlong : 121 < na + nb - 1
      · simp [cvK, hlong] at hk
        obtain ⟨rfl, rfl⟩ := hk
        have d0 : decide ((121 : Int) < (na : Int) + (nb : Int) - 1) = true := by simp; omega
        clear hra hrb hlong
        go_enter Tryz.func21, Tryz.ntmps21
        go_wp2_with fail
        refine (rvalid_q HX.out (Nat.le_refl _)).mono ?_
        rw [hrah.out]
        rintro e w1 ⟨rfl, hb⟩
        replace B := hide (Below.then_ B.out hb)
        replace HY := hide (HY.out.then_ hb)
        clear hb
        go_wp2_with fail
        refine (rvalid_q HY.out (Nat.le_refl _)).mono ?_
        rw [hrbh.out]
        rintro e w2 ⟨rfl, hb⟩
        replace B := hide (Below.then_ B.out hb)
        clear hb
        go_wp2
        go_ret2
        exact le_nil B.out
      · simp [cvK, hlong] at hk
        obtain ⟨rfl, rfl⟩ := hk
        have d0 : decide ((121 : Int) < (na : Int) + (nb : Int) - 1) = false := by simp; omega
        clear hra hrb hlong
        go_enter Tryz.func21, Tryz.ntmps21
        go_wp2_with fail
        refine (rvalid_q HX.out (Nat.le_refl _)).mono ?_
        rw [hrah.out]
        rintro e w1 ⟨rfl, hb⟩
        replace B := hide (Below.then_ B.out hb)
        replace HX := hide (HX.out.then_ hb)
        replace HY := hide (HY.out.then_ hb)
        clear hb
        go_wp2_with fail
        refine (rvalid_q HY.out (Nat.le_refl _)).mono ?_
        rw [hrbh.out]
        rintro e w2 ⟨rfl, hb⟩
        replace B := hide (Below.then_ B.out hb)
        replace HX := hide (HX.out.then_ hb)
        replace HY := hide (HY.out.then_ hb)
        clear hb
        go_wp2_with fail
        refine (rproduct_q HX.out HY.out (Nat.le_refl _) h1 h2 (by omega)).mono ?_
        rintro e w3 ⟨g, Z, z, rfl, hO, hz, hb⟩
        replace B := hide (Below.then_ B.out hb)
        obtain ⟨A6, c6, e6, hR6⟩ := hO.rd
        simp only [Value.slice.injEq, true_and] at e6
        obtain ⟨rfl, rfl⟩ := e6
        replace hR6 := hide hR6
        replace hz := hide hz
        clear hb hO
        go_wp2
        go_ret2
        exact ⟨_, _, Z, z, rfl, hR6.out.le (by omega), hz.out, B.out⟩
end
end Go.Proofs.YtonpeagedggakaaGreat
