/-
  ExV, ExW, ExX, ExBo.
-/
import Derived.Test.YtdihgmbldnekhaaExPB
import Derived.Test.YtdihgmbldnekhaaExRF
import Derived.Deep.RegionWith
namespace Go.Proofs.Ytdihgmbldnekhaa
section
open Go.RowKit

/-- the parts of the numbers, their sizes, and that of the common denominator -/
def CmH (w : World) (Bd n : Nat) (X : Nat → Rc) (q : Nat → Rat) (K : Nat) : Prop :=
  ∃ nu dn : Nat → Nat, PN w Bd n X nu dn ∧ (∀ i, i < n → qv (X i).s (nu i) (dn i) = q i) ∧ (∀ i, i < n → nu i < pw K) ∧ lcw q dn n < pw K
theorem CmH.upto {w w' : World} {Bd n K : Nat} {X : Nat → Rc} {q : Nat → Rat} (h : CmH w Bd n X q K) (hb : Below w.heap.size w w') (hB : Bd ≤ w.heap.size) : CmH w' w'.heap.size n X q K := by
  obtain ⟨nu, dn, h1, h2⟩ := h
  exact ⟨nu, dn, h1.upto hb hB, h2⟩
theorem CmH.then_ {w w' : World} {n K : Nat} {X : Nat → Rc} {q : Nat → Rat} (h : CmH w w.heap.size n X q K) (hb : Below w.heap.size w w') : CmH w' w'.heap.size n X q K := h.upto hb (Nat.le_refl _)
theorem szs_den {X : Nat → Rc} : ∀ n, ns (fun i => (X i).m) n ≤ szs X n
  | 0 => Nat.le_refl _
  | n + 1 => by have := szs_den (X := X) n; rw [ns, szs]; omega
theorem CmH.any {nf : Nat → Bool} {w : World} {Bd L n c K : Nat} {A : Option Addr} {X : Nat → Rc} {q : Nat → Rat} (h : LQ nf w Bd L A n c X q) (hL : L ≤ 1000000000) (hLK : L ≤ K) (hs : szs X n + 1 ≤ K) : CmH w Bd n X q K := by
  obtain ⟨nu, dn, h1, h2⟩ := h.parts hL
  refine ⟨nu, dn, h1, fun i hi => (h2 i hi).1, fun i hi => pw_le (Nat.le_trans (h2 i hi).2.2.2.1 hLK) (h2 i hi).2.1, ?_⟩
  have h3 := lcw_sz (q := q) (dn := dn) (s := fun i => (X i).m) (n := n) fun i hi => (h2 i hi).2.2.1
  have h4 := szs_den (X := X) n
  exact pw_le (by omega) h3
theorem In.dvd {P : Nat} {q : Rat} (h : In P q) (hP : 0 < P) : q.den ∣ P := by
  obtain ⟨a, ha⟩ := h
  have hP0 : P ≠ 0 := by omega
  have e : Rat.divInt (a : Int) (P : Int) = q := by
    rw [Rat.divInt_eq_div, Rat.intCast_natCast, Rat.intCast_natCast, ← ha]
    exact Rat.mul_div_cancel (natCast_ne hP0)
  have e2 : Rat.divInt (a : Int) (P : Int) = qv false a P := by rw [qv_ne hP0]; rfl
  rw [← e, e2, qv_den false a hP0]
  exact Nat.div_dvd_of_dvd (Nat.gcd_dvd_right _ _)
theorem CmH.nf {w : World} {Bd L n c K P : Nat} {A : Option Addr} {X : Nat → Rc} {q : Nat → Rat} (h : LQ (fun _ => true) w Bd L A n c X q) (hL : L ≤ 1000000000) (hLK : L ≤ K) (hP : 0 < P) (hin : ∀ i, i < n → In P (q i)) (hs : P < pw K) : CmH w Bd n X q K := by
  obtain ⟨h1, h2⟩ := h.parts_n hL
  exact ⟨_, _, h1, fun i hi => (h2 i hi).1, fun i hi => pw_le hLK (h2 i hi).2, Nat.lt_of_le_of_lt (Nat.le_of_dvd hP (lcw_of fun i hi => (hin i hi).dvd hP)) hs⟩
theorem common_h {nf : Nat → Bool} {w : World} {Bd n c L K : Nat} {A : Option Addr} {X : Nat → Rc} {q : Nat → Rat} (hx : LQ nf w Bd L A n c X q) (gL : L ≤ 400000000) (hB : Bd ≤ w.heap.size)
    (hc : CmH w Bd n X q K) (hK : K ≤ 400000000) {b : Bool} (hb : vlB n q = b) : Calls Try.prog 56 #[.slice A n c] w (RetCm w n K q b) := by
  obtain ⟨nu, dn, h1, h2, h3, h4⟩ := hc
  exact common_q hx gL hB h1 h2 h3 hK h4 hb
theorem ns_one (p : Nat → Nat) {i : Nat} : ∀ {n : Nat}, i < n → p i ≤ ns p n
  | 0, h => by omega
  | n + 1, h => by
    rw [ns]
    by_cases e : i = n
    · subst e; omega
    · have := ns_one p (i := i) (n := n) (by omega)
      omega
/-- the parts of a distribution are no larger than the whole -/
theorem parts_lt {P : Nat → Nat} {q : Nat → Rat} {W n K : Nat} (hv : vlB n q = true) (hW : W ≠ 0) (hK : W < pw K) (h : ∀ i, i < n → (P i : Rat) = q i * (W : Rat)) : ∀ i, i < n → P i < pw K := fun i hi => by
  have h1 := (parts_one hW h).2 (vl_len hv).2.2
  have h2 := ns_one P hi
  omega
theorem divInt_of {M W : Nat} {v : Rat} (hW : W ≠ 0) (h : (M : Rat) = v * (W : Rat)) : Rat.divInt (M : Int) (W : Int) = v := by
  rw [Rat.divInt_eq_div, Rat.intCast_natCast, Rat.intCast_natCast, h]
  exact Rat.mul_div_cancel (natCast_ne hW)
theorem moment_rat {P : Nat → Nat} {q : Nat → Rat} {W n d : Nat} (hd : d = 1 ∨ d = 2) (h : ∀ i, i < n → (P i : Rat) = q i * (W : Rat)) : ((ns (fun k => k ^ d * P k) n : Nat) : Rat) = qs (mq d q) n * (W : Rat) := by
  refine parts_sum fun i hi => ?_
  rcases hd with rfl | rfl
  · rw [Nat.pow_one, Rat.natCast_mul, h i hi]
    simp only [mq]
    rw [if_neg (by decide)]
    grind
  · rw [show i ^ 2 = i * i from Nat.pow_two i, Rat.natCast_mul, Rat.natCast_mul, h i hi]
    simp only [mq]
    rw [if_pos trivial]
    grind
set_option maxHeartbeats 2000000 in
theorem valid_p {nf : Nat → Bool} {w : World} {Bd n c L K : Nat} {A : Option Addr} {X : Nat → Rc} {q : Nat → Rat} (hx : LQ nf w Bd L A n c X q) (gL : L ≤ 400000000) (hB : Bd ≤ w.heap.size) (hc : CmH w Bd n X q K) (hK : K ≤ 130000000) {b : Bool} (hb : vlB n q = b) :
    Calls Try.prog 43 #[.slice A n c] w (RetB w (.bool b)) := by
  have hcap := hx.cap
  have hcb := hx.cbig
  have HX := hide (hx.upto (Below.refl _ _) hB)
  have HC := hide (hc.upto (Below.refl _ _) hB)
  have hbh := hide hb
  clear hx hc hB hb
  go_enter Try.func43, Try.ntmps43
  go_wp2_with fail
  refine (common_h HX.out gL (Nat.le_refl _) HC.out (by omega) hbh.out).mono ?_
  rintro e w1 ⟨A1, m1, c1, y1, rfl, hb, hok⟩
  have B := hide hb
  clear hok hb
  go_wp2
  go_ret
  exact ⟨rfl, B.out⟩
theorem pow_small {k d : Nat} (hk : k ≤ 1000) (hd : d = 1 ∨ d = 2) : k ^ d < pw 1 := by
  have e : pw 1 = 4294967296 := by decide
  rcases hd with rfl | rfl
  · rw [Nat.pow_one]; omega
  · rw [Nat.pow_two, e]
    have := Nat.mul_le_mul hk hk
    omega
set_option maxHeartbeats 4000000 in
theorem moment_p {w : World} {Bd n c K d : Nat} {A : Option Addr} {X : Nat → Nc} {p : Nat → Nat} (hx : LN w Bd A n c X p) (hB : Bd ≤ w.heap.size) {z : Int} (hz : z = (d : Int)) (hd : d = 1 ∨ d = 2) (hs : ∀ i, i < n → p i < pw K) (hK : K ≤ 900000000) (hn : n ≤ 1000) {r : Nat} (hr : ns (fun k => k ^ d * p k) n = r) :
    Calls Try.prog 57 #[.slice A n c, .int .i64 z] w (RetC w r) := by
  have hcap := hx.cap
  have hcb := hx.cbig
  have HX := hide (hx.upto (Below.refl _ _) hB)
  have B := hide (Below.refl w.heap.size w)
  have hsh := hide hs
  have hrh := hide hr
  have hdh := hide hd
  have hzh := hide hz
  have hst := hide (show Nn w w.heap.size zeroNc (ns (fun k => k ^ d * p k) 0) from Nn.zero _ _ (by omega) _)
  clear hx hB hs hr hd hz
  go_enter Try.func57, Try.ntmps57
  go_wp2
  go_loopw [5, 10] (fun s i wr => ∃ (k : Nat) (y : Nc), k ≤ n ∧ s = .slice y.A y.n y.c ∧ i = .int .i64 k ∧ Hid (Nn wr wr.heap.size y (ns (fun k => k ^ d * p k) k)) ∧ Hid (Below w.heap.size w wr)) (fun _ i _ => n - (intOf i).toNat)
  case atStart => exact ⟨0, zeroNc, Nat.zero_le _, rfl, rfl, hst, B⟩
  case round =>
    obtain ⟨k, y, hk, rfl, rfl, RY, B2⟩ := hrel
    clear hst B
    by_cases hkl : k < n
    · have HW := HX.out.then_ B2.out
      obtain ⟨ad, hA, hab, E0⟩ := HW.all hkl
      subst hA
      have hk64 : (k : Int) < (n : Int) := by omega
      have hwr := wrap_nat (z := (k : Int)) rfl (by omega)
      have RX := hide (HW.nums k hkl)
      replace E0 := E0 wr (Below.refl _ _)
      have hps := hide (pow_small (k := k) (d := d) (by omega) hdh.out)
      have hpm := hide (show ∀ i, i < n → i ^ d * p i < pw (1 + K) from fun i hi => by
        rw [pw_add]
        exact Nat.mul_lt_mul'' (pow_small (by omega) hdh.out) (hsh.out i hi))
      have hkL := hide (show Lg k from Lg.pw (k := 1) (by rw [show pw 1 = 4294967296 by decide]; omega) (by omega))
      clear HW hab
      go_wp2_with fail
      refine (of_c (m := k) (by omega)).mono ?_
      rintro e w1 ⟨x1, rfl, R1, hb⟩
      replace RX := hide (RX.out.then_ hb)
      replace RY := hide (RY.out.then_ hb)
      replace B2 := hide (Below.then_ B2.out hb)
      replace R1 := hide R1
      clear hb E0
      go_wp2_with fail
      refine (power_z (R1.out.nz hkL.out) (Nat.le_refl _) hzh.out (by have := hdh.out; omega) rfl).mono ?_
      rintro e w2 ⟨x2, rfl, R2, hb⟩
      replace RX := hide (RX.out.then_ hb)
      replace RY := hide (RY.out.then_ hb)
      replace B2 := hide (Below.then_ B2.out hb)
      replace R2 := hide R2
      clear hb R1
      go_wp2_with fail
      refine (mul_z (R2.out.nz (Lg.pw hps.out (by omega))) (RX.out.nz (Lg.pw (hsh.out k hkl) (by omega))) (Nat.le_refl _) rfl).mono ?_
      rintro e w3 ⟨x3, rfl, R3, hb⟩
      replace RY := hide (RY.out.then_ hb)
      replace B2 := hide (Below.then_ B2.out hb)
      replace R3 := hide R3
      clear hb R2 RX
      go_wp2_with fail
      refine (add_z (RY.out.nz (Lg.pw (ns_lt (K := 1 + K) (fun i hi => hpm.out i (by omega)) (by omega)) (by omega))) (R3.out.nz (Lg.pw (hpm.out k hkl) (by omega))) (Nat.le_refl _) (ns_succ (fun k => k ^ d * p k) k)).mono ?_
      rintro e w4 ⟨x4, rfl, R4, hb⟩
      replace B2 := hide (Below.then_ B2.out hb)
      replace R4 := hide R4
      clear hb R3 RY
      go_wp2
      go_roundw
      case rel => exact ⟨k + 1, x4, by omega, by go_num, by go_num, R4, B2⟩
      case measure => simp [intOf]; omega
    · obtain rfl : k = n := by omega
      rw [hrh.out] at RY
      go_wp2
      go_ret
      exact ⟨y, rfl, RY.out, B2.out⟩
theorem moment_lt {p : Nat → Nat} {K n d : Nat} (hs : ∀ i, i < n → p i < pw K) (hd : d = 1 ∨ d = 2) (hn : n ≤ 1000) : ns (fun k => k ^ d * p k) n < pw (K + 2) := by
  have h := ns_lt (p := fun k => k ^ d * p k) (K := 1 + K) (n := n) (fun i hi => by
    rw [pw_add]
    exact Nat.mul_lt_mul'' (pow_small (by omega) hd) (hs i hi)) (by omega)
  rw [show K + 2 = 1 + K + 1 by omega]
  exact h
set_option maxHeartbeats 8000000 in
set_option maxRecDepth 100000 in
theorem mean_p {nf : Nat → Bool} {w : World} {Bd n c L K : Nat} {A : Option Addr} {X : Nat → Rc} {q : Nat → Rat} (hx : LQ nf w Bd L A n c X q) (gL : L ≤ 400000000) (hB : Bd ≤ w.heap.size) (hc : CmH w Bd n X q K) (hK : K ≤ 130000000) {ra : Bool} (hra : vlB n q = ra) :
    Calls Try.prog 14 #[.slice A n c] w (RetRE w (K + 2) (qs (mq 1 q) n) (if ra = true then 0 else 1)) := by
  have hK4 : K ≤ 400000000 := by omega
  obtain ⟨W, hW⟩ : ∃ W, W = (w.alloc (.cells #[.bool false, .slice none 0 0, .slice none 0 0] 27)) := ⟨_, rfl⟩
  have b_r : Box3 W w.heap.size (.bool false) (.slice none 0 0) (.slice none 0 0) := by rw [hW]; exact Box3.new w _ _ _ rfl
  have hwW : Below w.heap.size w W := by rw [hW]; exact (Below.refl _ _).alloc (Nat.le_refl _) _
  have HX := hide (hx.upto hwW hB)
  have HC := hide (hc.upto hwW hB)
  have hcap := hx.cap
  have hcb := hx.cbig
  have B := hide hwW
  clear hx hc hwW hB
  have U0 : Below W.heap.size W W := Below.refl _ _
  have c_r0 := b_r.at0 b_r.lt_size (Nat.le_refl _)
  have c_r1 := b_r.at1 b_r.lt_size (Nat.le_refl _)
  have c_r2 := b_r.at2 b_r.lt_size (Nat.le_refl _)
  have f_r0 := b_r.free0 b_r.lt_size (Nat.le_refl _)
  have f_r1 := b_r.free1 b_r.lt_size (Nat.le_refl _)
  have f_r2 := b_r.free2 b_r.lt_size (Nat.le_refl _)
  have l_r := b_r.lt b_r.lt_size (Nat.le_refl _)
  clear b_r
  have hrah := hide hra
  cases ra with
  | false =>
    clear hra
    go_enter Try.func14, Try.ntmps14
    go_wp2_with fail
    rw [← hW]
    clear hW
    refine (common_h HX.out gL (Nat.le_refl _) HC.out hK4 hrah.out).mono ?_
    rintro e w1 ⟨A1, m1, c1, y1, rfl, hb, hok⟩
    have U1 : Below W.heap.size W w1 := Below.then_ U0 hb
    replace B := hide (Below.then_ B.out hb)
    clear hb hok
    go_wp2
    exact bodyPost_ret (v := .tuple #[.agg #[.bool false, .slice none 0 0, .slice none 0 0], .int .i64 1]) (by simp [results, Try.results14, go_sem, c_r0 _ U1, c_r1 _ U1, c_r2 _ U1]) rfl ⟨zeroRc, rfl, fun h => by simp at h, fun _ => rfl, ((B.out.setCell (Nat.le_refl _) _).setCell (Nat.le_refl _) _).setCell (Nat.le_refl _) _⟩
  | true =>
    have h121 := (vl_len hra).1.2
    have hvl := hide hra
    clear hra
    go_enter Try.func14, Try.ntmps14
    go_wp2_with fail
    rw [← hW]
    clear hW
    refine (common_h HX.out gL (Nat.le_refl _) HC.out hK4 hrah.out).mono ?_
    rintro e w1 ⟨A1, m1, c1, y1, rfl, hb, hok⟩
    have U1 : Below W.heap.size W w1 := Below.then_ U0 hb
    replace B := hide (Below.then_ B.out hb)
    obtain ⟨X1, P, V, hmn, HL, R1, hV0, hVK, hrat⟩ := hok rfl
    have hnm := hmn.symm
    subst hnm
    clear hmn
    replace HL := hide HL
    replace R1 := hide R1
    replace hV0 := hide hV0
    replace hVK := hide hVK
    replace hrat := hide hrat
    have hPK := hide (parts_lt hvl.out hV0.out hVK.out hrat.out)
    have hcap1 := HL.out.cap
    have hcb1 := HL.out.cbig
    clear hb hok
    go_wp2_with fail
    refine (moment_p HL.out (Nat.le_refl _) (d := 1) rfl (.inl rfl) hPK.out (by omega) (by omega) rfl).mono ?_
    rintro e w2 ⟨x2, rfl, R2, hb⟩
    have U2 : Below W.heap.size W w2 := Below.then_ U1 hb
    replace B := hide (Below.then_ B.out hb)
    replace R1 := hide (R1.out.then_ hb)
    replace R2 := hide R2
    have hml := hide (moment_lt (d := 1) hPK.out (.inl rfl) (by omega))
    have hmr := hide (divInt_of hV0.out (moment_rat (d := 1) (.inl rfl) hrat.out))
    clear hb
    go_wp2_with fail
    refine (fraction_q (K := K + 2) (R2.out.nz (Lg.pw hml.out (by omega))) (R1.out.nz (Lg.pw hVK.out (by omega))) (Nat.le_refl _) hV0.out hml.out (pw_le (by omega) hVK.out) (by omega) hmr.out).mono ?_
    rintro e w3 ⟨x3, rfl, R3, hb⟩
    have U3 : Below W.heap.size W w3 := Below.then_ U2 hb
    replace B := hide (Below.then_ B.out hb)
    replace R3 := hide R3
    clear hb
    go_wp2
    exact bodyPost_ret (v := .tuple #[.agg #[.bool x3.s, .slice x3.A x3.n x3.c, .slice x3.B x3.m x3.d], .int .i64 0]) (by simp [results, Try.results14, go_sem, c_r0 _ U3, c_r1 _ U3, c_r2 _ U3]) rfl ⟨x3, rfl, fun _ => R3.out.set3 (y := zeroRc) (c_r0 _ U3) (c_r1 _ U3) (c_r2 _ U3) _ _ _, fun h => absurd rfl h, ((B.out.setCell (Nat.le_refl _) _).setCell (Nat.le_refl _) _).setCell (Nat.le_refl _) _⟩
end

section
open Go.RowKit

set_option maxHeartbeats 8000000 in
set_option maxRecDepth 100000 in
theorem variance_p {nf : Nat → Bool} {w : World} {Bd n c L K : Nat} {A : Option Addr} {X : Nat → Rc} {q : Nat → Rat} (hx : LQ nf w Bd L A n c X q) (gL : L ≤ 400000000) (hB : Bd ≤ w.heap.size) (hc : CmH w Bd n X q K) (hK : K ≤ 130000000) {ra : Bool} (hra : vlB n q = ra) :
    Calls Try.prog 15 #[.slice A n c] w (RetRE w (3 * K + 11) (qs (mq 2 q) n - qs (mq 1 q) n * qs (mq 1 q) n) (if ra = true then 0 else 1)) := by
  have hK4 : K ≤ 400000000 := by omega
  obtain ⟨W, hW⟩ : ∃ W, W = (w.alloc (.cells #[.bool false, .slice none 0 0, .slice none 0 0] 27)) := ⟨_, rfl⟩
  have b_r : Box3 W w.heap.size (.bool false) (.slice none 0 0) (.slice none 0 0) := by rw [hW]; exact Box3.new w _ _ _ rfl
  have hwW : Below w.heap.size w W := by rw [hW]; exact (Below.refl _ _).alloc (Nat.le_refl _) _
  have HX := hide (hx.upto hwW hB)
  have HC := hide (hc.upto hwW hB)
  have hcap := hx.cap
  have hcb := hx.cbig
  have B := hide hwW
  clear hx hc hwW hB
  have U0 : Below W.heap.size W W := Below.refl _ _
  have c_r0 := b_r.at0 b_r.lt_size (Nat.le_refl _)
  have c_r1 := b_r.at1 b_r.lt_size (Nat.le_refl _)
  have c_r2 := b_r.at2 b_r.lt_size (Nat.le_refl _)
  have f_r0 := b_r.free0 b_r.lt_size (Nat.le_refl _)
  have f_r1 := b_r.free1 b_r.lt_size (Nat.le_refl _)
  have f_r2 := b_r.free2 b_r.lt_size (Nat.le_refl _)
  have l_r := b_r.lt b_r.lt_size (Nat.le_refl _)
  clear b_r
  have hrah := hide hra
  cases ra with
  | false =>
    clear hra
    go_enter Try.func15, Try.ntmps15
    go_wp2_with fail
    rw [← hW]
    clear hW
    refine (common_h HX.out gL (Nat.le_refl _) HC.out hK4 hrah.out).mono ?_
    rintro e w1 ⟨A1, m1, c1, y1, rfl, hb, hok⟩
    have U1 : Below W.heap.size W w1 := Below.then_ U0 hb
    replace B := hide (Below.then_ B.out hb)
    clear hb hok
    go_wp2
    exact bodyPost_ret (v := .tuple #[.agg #[.bool false, .slice none 0 0, .slice none 0 0], .int .i64 1]) (by simp [results, Try.results15, go_sem, c_r0 _ U1, c_r1 _ U1, c_r2 _ U1]) rfl ⟨zeroRc, rfl, fun h => by simp at h, fun _ => rfl, ((B.out.setCell (Nat.le_refl _) _).setCell (Nat.le_refl _) _).setCell (Nat.le_refl _) _⟩
  | true =>
    have h121 := (vl_len hra).1.2
    have hvl := hide hra
    clear hra
    go_enter Try.func15, Try.ntmps15
    go_wp2_with fail
    rw [← hW]
    clear hW
    refine (common_h HX.out gL (Nat.le_refl _) HC.out hK4 hrah.out).mono ?_
    rintro e w1 ⟨A1, m1, c1, y1, rfl, hb, hok⟩
    have U1 : Below W.heap.size W w1 := Below.then_ U0 hb
    replace B := hide (Below.then_ B.out hb)
    obtain ⟨X1, P, V, hmn, HL, R1, hV0, hVK, hrat⟩ := hok rfl
    have hnm := hmn.symm
    subst hnm
    clear hmn
    replace HL := hide HL
    replace R1 := hide R1
    replace hV0 := hide hV0
    replace hVK := hide hVK
    replace hrat := hide hrat
    have hPK := hide (parts_lt hvl.out hV0.out hVK.out hrat.out)
    have hcap1 := HL.out.cap
    have hcb1 := HL.out.cbig
    clear hb hok
    go_wp2_with fail
    refine (moment_p HL.out (Nat.le_refl _) (d := 1) rfl (.inl rfl) hPK.out (by omega) (by omega) rfl).mono ?_
    rintro e w2 ⟨x2, rfl, R2, hb⟩
    have U2 : Below W.heap.size W w2 := Below.then_ U1 hb
    replace B := hide (Below.then_ B.out hb)
    replace R1 := hide (R1.out.then_ hb)
    replace HL := hide (HL.out.then_ hb)
    replace R2 := hide R2
    have hml := hide (moment_lt (d := 1) hPK.out (.inl rfl) (by omega))
    have hmr := hide (divInt_of hV0.out (moment_rat (d := 1) (.inl rfl) hrat.out))
    have hml2 := hide (moment_lt (d := 2) hPK.out (.inr rfl) (by omega))
    have hmr2 := hide (divInt_of hV0.out (moment_rat (d := 2) (.inr rfl) hrat.out))
    clear hb
    go_wp2_with fail
    refine (fraction_q (K := K + 2) (R2.out.nz (Lg.pw hml.out (by omega))) (R1.out.nz (Lg.pw hVK.out (by omega))) (Nat.le_refl _) hV0.out hml.out (pw_le (by omega) hVK.out) (by omega) hmr.out).mono ?_
    rintro e w3 ⟨x3, rfl, R3, hb⟩
    have U3 : Below W.heap.size W w3 := Below.then_ U2 hb
    have hal : Below w3.heap.size w3 (w3.alloc (.cells #[.bool x3.s, .slice x3.A x3.n x3.c, .slice x3.B x3.m x3.d] 27)) := (Below.refl _ _).alloc (Nat.le_refl _) _
    have hM := hide (Box3.new w3 (.bool x3.s) (.slice x3.A x3.n x3.c) (.slice x3.B x3.m x3.d) rfl)
    have hb2 := Below.then_ hb hal
    replace HL := hide (HL.out.then_ hb2)
    replace R1 := hide (R1.out.then_ hb2)
    replace R3 := hide (R3.then_ hal)
    replace B := hide (Below.then_ B.out hb2)
    have U4 := Below.then_ U3 hal
    have hsz := U3.size
    have hlr := l_r _ U3
    clear hb hal hb2 R2
    go_wp2_with fail
    obtain ⟨V, hV⟩ : ∃ V, V = w3.alloc (.cells #[.bool x3.s, .slice x3.A x3.n x3.c, .slice x3.B x3.m x3.d] 27) := ⟨_, rfl⟩
    obtain ⟨g, hg⟩ : ∃ g, g = w3.heap.size := ⟨_, rfl⟩
    rw [← hV] at hM R3 HL R1 U4 B ⊢
    rw [← hg] at hM hlr ⊢
    have hgw : w.heap.size ≠ g := by omega
    clear hV hg hsz
    have hbx := Below.drw_ V
    have c_g0 := hM.out.at0 hM.out.lt_size (Nat.le_refl _)
    have c_g1 := hM.out.at1 hM.out.lt_size (Nat.le_refl _)
    have c_g2 := hM.out.at2 hM.out.lt_size (Nat.le_refl _)
    have RM := hide R3.out.rq
    clear hM
    go_region_with (first | (go_at_call 57; refine (moment_p (HL.out.then_ hbx) (Nat.le_refl _) (d := 2) rfl (.inr rfl) hPK.out (by omega) (by omega) rfl).mono ?_; rintro e w5 ⟨x5, rfl, R5, hb5⟩; have U5 : Below V.heap.size V w5 := Below.then_ hbx hb5; replace R5 := hide R5; clear hb5) | (go_at_call 51; refine (fraction_q (K := K + 2) (R5.out.nz (Lg.pw hml2.out (by omega))) ((R1.out.then_ U5).nz (Lg.pw hVK.out (by omega))) (Nat.le_refl _) hV0.out hml2.out (pw_le (by omega) hVK.out) (by omega) hmr2.out).mono ?_; rintro e w6 ⟨x6, rfl, R6, hb6⟩; have U6 : Below V.heap.size V w6 := Below.then_ U5 hb6; replace R6 := hide R6; clear hb6 R5) | (go_at_call 17; refine (mul_q (RM.out.then_ U6) (by omega) (RM.out.then_ U6) (by omega) (Nat.le_refl _) rfl).mono ?_; rintro e w7 ⟨x7, rfl, R7, hb7⟩; have U7 : Below V.heap.size V w7 := Below.then_ U6 hb7; replace R6 := hide (R6.out.then_ hb7); replace R7 := hide R7; clear hb7) | (go_at_call 20; refine (sub_q R6.out.rq (by omega) R7.out.rq (by omega) (Nat.le_refl _) rfl).mono ?_; rintro e w8 ⟨x8, rfl, R8, hb8⟩; have U8 : Below V.heap.size V w8 := Below.then_ U7 hb8; have U9 : Below W.heap.size W w8 := Below.then_ U4 U8; have B9 := hide (Below.then_ B.out U8); replace R8 := hide R8; clear hb8 R6 R7))
    all_goals
      go_wp2
      exact bodyPost_ret (v := .tuple #[.agg #[.bool x8.s, .slice x8.A x8.n x8.c, .slice x8.B x8.m x8.d], .int .i64 0]) (by simp [results, Try.results15, go_sem, c_r0 _ U9, c_r1 _ U9, c_r2 _ U9]) rfl ⟨x8, rfl, fun _ => (R8.out.le (by omega)).set3 (y := zeroRc) (c_r0 _ U9) (c_r1 _ U9) (c_r2 _ U9) _ _ _, fun h => absurd rfl h, ((B9.out.setCell (Nat.le_refl _) _).setCell (Nat.le_refl _) _).setCell (Nat.le_refl _) _⟩
end

section
open Go.RowKit

theorem LN.nil {w : World} {Bd m c : Nat} {A : Option Addr} (h : m = 0) (hc : c ≤ 9223372036854775807) (X : Nat → Nc) (q : Nat → Nat) : LN w Bd A m c X q := by subst h; exact LN.empty _ _ _ hc _ _
theorem up_drop {q : Nat → Rat} {k n f : Nat} (hf : f = min k n) : qs (fun i => q (f + i)) (n - f) = qs (fun i => if k ≤ i then q i else 0) n := by
  have h := qs_split (fun i => if k ≤ i then q i else 0) f (n - f)
  rw [show f + (n - f) = n by omega] at h
  rw [h, qs_zero (fun i hi => if_neg (by omega))]
  have e : qs (fun i => if k ≤ f + i then q (f + i) else 0) (n - f) = qs (fun i => q (f + i)) (n - f) := qs_congr fun i hi => if_pos (by omega)
  rw [e]
  grind
theorem low_take {q : Nat → Rat} {k n f : Nat} (hf : f = min k (n - 1) + 1) (hn : 1 ≤ n) : qs q f = qs (fun i => if i ≤ k then q i else 0) n := by
  rw [qs_tail (m := f) (n := n) (by omega) fun i h1 h2 => if_neg (by omega)]
  exact qs_congr fun i hi => (if_pos (by omega)).symm
set_option maxHeartbeats 8000000 in
set_option maxRecDepth 100000 in
theorem upper_p {nf : Nat → Bool} {w : World} {Bd n c L K : Nat} {A : Option Addr} {X : Nat → Rc} {q : Nat → Rat} (hx : LQ nf w Bd L A n c X q) (gL : L ≤ 400000000) (hB : Bd ≤ w.heap.size) (hc : CmH w Bd n X q K) (hK : K ≤ 130000000) {z : Int} {k : Nat} (hz : z = (k : Int)) (hk : k ≤ 1000000) {ra : Bool} (hra : vlB n q = ra) :
    Calls Try.prog 44 #[.slice A n c, .int .i64 z] w (RetRE w (K + 1) (qs (fun i => if k ≤ i then q i else 0) n) (if ra = true then 0 else 1)) := by
  have hK4 : K ≤ 400000000 := by omega
  subst hz
  obtain ⟨W, hW⟩ : ∃ W, W = (w.alloc (.cells #[.bool false, .slice none 0 0, .slice none 0 0] 27)) := ⟨_, rfl⟩
  have b_r : Box3 W w.heap.size (.bool false) (.slice none 0 0) (.slice none 0 0) := by rw [hW]; exact Box3.new w _ _ _ rfl
  have hwW : Below w.heap.size w W := by rw [hW]; exact (Below.refl _ _).alloc (Nat.le_refl _) _
  have HX := hide (hx.upto hwW hB)
  have HC := hide (hc.upto hwW hB)
  have hcap := hx.cap
  have hcb := hx.cbig
  have B := hide hwW
  clear hx hc hwW hB
  have U0 : Below W.heap.size W W := Below.refl _ _
  have c_r0 := b_r.at0 b_r.lt_size (Nat.le_refl _)
  have c_r1 := b_r.at1 b_r.lt_size (Nat.le_refl _)
  have c_r2 := b_r.at2 b_r.lt_size (Nat.le_refl _)
  have f_r0 := b_r.free0 b_r.lt_size (Nat.le_refl _)
  have f_r1 := b_r.free1 b_r.lt_size (Nat.le_refl _)
  have f_r2 := b_r.free2 b_r.lt_size (Nat.le_refl _)
  have l_r := b_r.lt b_r.lt_size (Nat.le_refl _)
  clear b_r
  have hrah := hide hra
  cases ra with
  | false =>
    clear hra
    go_enter Try.func44, Try.ntmps44
    go_wp2_with fail
    rw [← hW]
    clear hW
    refine (common_h HX.out gL (Nat.le_refl _) HC.out hK4 hrah.out).mono ?_
    rintro e w1 ⟨A1, m1, c1, y1, rfl, hb, hok⟩
    have U1 : Below W.heap.size W w1 := Below.then_ U0 hb
    replace B := hide (Below.then_ B.out hb)
    clear hb hok
    go_wp2
    exact bodyPost_ret (v := .tuple #[.agg #[.bool false, .slice none 0 0, .slice none 0 0], .int .i64 1]) (by simp [results, Try.results44, go_sem, c_r0 _ U1, c_r1 _ U1, c_r2 _ U1]) rfl ⟨zeroRc, rfl, fun h => by simp at h, fun _ => rfl, ((B.out.setCell (Nat.le_refl _) _).setCell (Nat.le_refl _) _).setCell (Nat.le_refl _) _⟩
  | true =>
    have h121 := (vl_len hra).1.2
    have hvl := hide hra
    clear hra
    go_enter Try.func44, Try.ntmps44
    go_wp2_with fail
    rw [← hW]
    clear hW
    refine (common_h HX.out gL (Nat.le_refl _) HC.out hK4 hrah.out).mono ?_
    rintro e w1 ⟨A1, m1, c1, y1, rfl, hb, hok⟩
    have U1 : Below W.heap.size W w1 := Below.then_ U0 hb
    replace B := hide (Below.then_ B.out hb)
    obtain ⟨X1, P, V, hmn, HL, R1, hV0, hVK, hrat⟩ := hok rfl
    have hnm := hmn.symm
    subst hnm
    clear hmn
    replace HL := hide HL
    replace R1 := hide R1
    replace hV0 := hide hV0
    replace hVK := hide hVK
    replace hrat := hide hrat
    have hPK := hide (parts_lt hvl.out hV0.out hVK.out hrat.out)
    have hcap1 := HL.out.cap
    have hcb1 := HL.out.cbig
    clear hb hok
    obtain ⟨f, hf⟩ : ∃ f, f = min k n := ⟨_, rfl⟩
    have hmax : max (k : Int) 0 = (k : Int) := by omega
    have hmin : min (k : Int) (n : Int) = (f : Int) := by omega
    have hfn : f ≤ n := by omega
    have hn1 := (vl_len hvl.out).1.1
    obtain ⟨ad, hA, hab, _⟩ := HL.out.cells hn1
    subst hA
    have hdr := hide (HL.out.drop f hfn)
    have hPd := hide (show ∀ i, i < n - f → P (f + i) < pw K from fun i hi => hPK.out _ (by omega))
    have hsm := hide (ns_lt hPd.out (by omega))
    have hval := hide (show Rat.divInt ((ns (fun i => P (f + i)) (n - f) : Nat) : Int) (V : Int) = qs (fun i => if k ≤ i then q i else 0) n by
      rw [← up_drop hf]
      exact divInt_of hV0.out (parts_sum (P := fun i => P (f + i)) (q := fun i => q (f + i)) fun i hi => hrat.out _ (by omega)))
    clear hf hn1 hab
    go_wp2_with fail
    all_goals
      refine (total_n (K := K) (by first | exact hdr.out | exact LN.nil (by omega) (by omega) (fun i => X1 (f + i)) _) (Nat.le_refl _) hPd.out (by omega) (by omega) rfl).mono ?_
      rintro e w2 ⟨x2, rfl, R2, hb⟩
      have U2 : Below W.heap.size W w2 := Below.then_ U1 hb
      replace B := hide (Below.then_ B.out hb)
      replace R1 := hide (R1.out.then_ hb)
      replace R2 := hide R2
      clear hb
      go_wp2_with fail
      refine (fraction_q (K := K + 1) (R2.out.nz (Lg.pw hsm.out (by omega))) (R1.out.nz (Lg.pw hVK.out (by omega))) (Nat.le_refl _) hV0.out hsm.out (pw_le (by omega) hVK.out) (by omega) hval.out).mono ?_
      rintro e w3 ⟨x3, rfl, R3, hb⟩
      have U3 : Below W.heap.size W w3 := Below.then_ U2 hb
      replace B := hide (Below.then_ B.out hb)
      replace R3 := hide R3
      clear hb
      go_wp2
      exact bodyPost_ret (v := .tuple #[.agg #[.bool x3.s, .slice x3.A x3.n x3.c, .slice x3.B x3.m x3.d], .int .i64 0]) (by simp [results, Try.results44, go_sem, c_r0 _ U3, c_r1 _ U3, c_r2 _ U3]) rfl ⟨x3, rfl, fun _ => R3.out.set3 (y := zeroRc) (c_r0 _ U3) (c_r1 _ U3) (c_r2 _ U3) _ _ _, fun h => absurd rfl h, ((B.out.setCell (Nat.le_refl _) _).setCell (Nat.le_refl _) _).setCell (Nat.le_refl _) _⟩
set_option maxHeartbeats 8000000 in
set_option maxRecDepth 100000 in
theorem lower_p {nf : Nat → Bool} {w : World} {Bd n c L K : Nat} {A : Option Addr} {X : Nat → Rc} {q : Nat → Rat} (hx : LQ nf w Bd L A n c X q) (gL : L ≤ 400000000) (hB : Bd ≤ w.heap.size) (hc : CmH w Bd n X q K) (hK : K ≤ 130000000) {z : Int} {k : Nat} (hz : z = (k : Int)) (hk : k ≤ 1000000) {ra : Bool} (hra : vlB n q = ra) :
    Calls Try.prog 45 #[.slice A n c, .int .i64 z] w (RetRE w (K + 1) (qs (fun i => if i ≤ k then q i else 0) n) (if ra = true then 0 else 1)) := by
  have hK4 : K ≤ 400000000 := by omega
  subst hz
  obtain ⟨W, hW⟩ : ∃ W, W = (w.alloc (.cells #[.bool false, .slice none 0 0, .slice none 0 0] 27)) := ⟨_, rfl⟩
  have b_r : Box3 W w.heap.size (.bool false) (.slice none 0 0) (.slice none 0 0) := by rw [hW]; exact Box3.new w _ _ _ rfl
  have hwW : Below w.heap.size w W := by rw [hW]; exact (Below.refl _ _).alloc (Nat.le_refl _) _
  have HX := hide (hx.upto hwW hB)
  have HC := hide (hc.upto hwW hB)
  have hcap := hx.cap
  have hcb := hx.cbig
  have B := hide hwW
  clear hx hc hwW hB
  have U0 : Below W.heap.size W W := Below.refl _ _
  have c_r0 := b_r.at0 b_r.lt_size (Nat.le_refl _)
  have c_r1 := b_r.at1 b_r.lt_size (Nat.le_refl _)
  have c_r2 := b_r.at2 b_r.lt_size (Nat.le_refl _)
  have f_r0 := b_r.free0 b_r.lt_size (Nat.le_refl _)
  have f_r1 := b_r.free1 b_r.lt_size (Nat.le_refl _)
  have f_r2 := b_r.free2 b_r.lt_size (Nat.le_refl _)
  have l_r := b_r.lt b_r.lt_size (Nat.le_refl _)
  clear b_r
  have hrah := hide hra
  cases ra with
  | false =>
    clear hra
    go_enter Try.func45, Try.ntmps45
    go_wp2_with fail
    rw [← hW]
    clear hW
    refine (common_h HX.out gL (Nat.le_refl _) HC.out hK4 hrah.out).mono ?_
    rintro e w1 ⟨A1, m1, c1, y1, rfl, hb, hok⟩
    have U1 : Below W.heap.size W w1 := Below.then_ U0 hb
    replace B := hide (Below.then_ B.out hb)
    clear hb hok
    go_wp2
    exact bodyPost_ret (v := .tuple #[.agg #[.bool false, .slice none 0 0, .slice none 0 0], .int .i64 1]) (by simp [results, Try.results45, go_sem, c_r0 _ U1, c_r1 _ U1, c_r2 _ U1]) rfl ⟨zeroRc, rfl, fun h => by simp at h, fun _ => rfl, ((B.out.setCell (Nat.le_refl _) _).setCell (Nat.le_refl _) _).setCell (Nat.le_refl _) _⟩
  | true =>
    have h121 := (vl_len hra).1.2
    have hvl := hide hra
    clear hra
    go_enter Try.func45, Try.ntmps45
    go_wp2_with fail
    rw [← hW]
    clear hW
    refine (common_h HX.out gL (Nat.le_refl _) HC.out hK4 hrah.out).mono ?_
    rintro e w1 ⟨A1, m1, c1, y1, rfl, hb, hok⟩
    have U1 : Below W.heap.size W w1 := Below.then_ U0 hb
    replace B := hide (Below.then_ B.out hb)
    obtain ⟨X1, P, V, hmn, HL, R1, hV0, hVK, hrat⟩ := hok rfl
    have hnm := hmn.symm
    subst hnm
    clear hmn
    replace HL := hide HL
    replace R1 := hide R1
    replace hV0 := hide hV0
    replace hVK := hide hVK
    replace hrat := hide hrat
    have hPK := hide (parts_lt hvl.out hV0.out hVK.out hrat.out)
    have hcap1 := HL.out.cap
    have hcb1 := HL.out.cbig
    clear hb hok
    have hn1 := (vl_len hvl.out).1.1
    obtain ⟨f, hf⟩ : ∃ f, f = min k (n - 1) := ⟨_, rfl⟩
    obtain ⟨l, hl⟩ : ∃ l, l = f + 1 := ⟨_, rfl⟩
    have hmax : max (k : Int) (-1) = (k : Int) := by omega
    have hmin : min (k : Int) ((n : Int) - 1) = (f : Int) := by omega
    have hln : l ≤ n := by omega
    have hf64 : (f : Int) + 1 = (l : Int) := by omega
    have htk := hide (HL.out.take hln)
    have hPd := hide (show ∀ i, i < l → P i < pw K from fun i hi => hPK.out _ (by omega))
    have hsm := hide (ns_lt hPd.out (by omega))
    have hval := hide (show Rat.divInt ((ns P l : Nat) : Int) (V : Int) = qs (fun i => if i ≤ k then q i else 0) n by
      rw [← low_take (f := l) (by omega) hn1]
      exact divInt_of hV0.out (parts_sum fun i hi => hrat.out _ (by omega)))
    clear hf hn1 hl
    go_wp2_with fail
    refine (total_n (K := K) htk.out (Nat.le_refl _) hPd.out (by omega) (by omega) rfl).mono ?_
    rintro e w2 ⟨x2, rfl, R2, hb⟩
    have U2 : Below W.heap.size W w2 := Below.then_ U1 hb
    replace B := hide (Below.then_ B.out hb)
    replace R1 := hide (R1.out.then_ hb)
    replace R2 := hide R2
    clear hb
    go_wp2_with fail
    refine (fraction_q (K := K + 1) (R2.out.nz (Lg.pw hsm.out (by omega))) (R1.out.nz (Lg.pw hVK.out (by omega))) (Nat.le_refl _) hV0.out hsm.out (pw_le (by omega) hVK.out) (by omega) hval.out).mono ?_
    rintro e w3 ⟨x3, rfl, R3, hb⟩
    have U3 : Below W.heap.size W w3 := Below.then_ U2 hb
    replace B := hide (Below.then_ B.out hb)
    replace R3 := hide R3
    clear hb
    go_wp2
    exact bodyPost_ret (v := .tuple #[.agg #[.bool x3.s, .slice x3.A x3.n x3.c, .slice x3.B x3.m x3.d], .int .i64 0]) (by simp [results, Try.results45, go_sem, c_r0 _ U3, c_r1 _ U3, c_r2 _ U3]) rfl ⟨x3, rfl, fun _ => R3.out.set3 (y := zeroRc) (c_r0 _ U3) (c_r1 _ U3) (c_r2 _ U3) _ _ _, fun h => absurd rfl h, ((B.out.setCell (Nat.le_refl _) _).setCell (Nat.le_refl _) _).setCell (Nat.le_refl _) _⟩
end

section
open Go.RowKit

theorem both_rat {P : Nat → Nat} {q : Nat → Rat} {W n k : Nat} (hW : W ≠ 0) (h : ∀ i, i < n → (P i : Rat) = q i * (W : Rat)) (hk : k < n) : ((ns (fun m => if P m ≤ P k then P m else 0) n : Nat) : Rat) = both q k n * (W : Rat) := by
  refine parts_sum fun i hi => ?_
  have hw : (0 : Rat) < (W : Rat) := by
    have h1 : (0 : Rat) ≤ (W : Rat) := Rat.natCast_nonneg
    have h2 := natCast_ne hW
    grind
  by_cases e : q i ≤ q k
  · have h1 : P i ≤ P k := by
      have h2 := Rat.mul_le_mul_of_nonneg_right e (Rat.le_of_lt hw)
      rw [← h i hi, ← h k hk] at h2
      exact Rat.natCast_le_natCast.1 h2
    rw [if_pos h1, if_pos e, h i hi]
  · have h1 : ¬ P i ≤ P k := fun h3 => by
      have h2 := Rat.mul_lt_mul_of_pos_right (Rat.not_le.1 e) hw
      rw [← h i hi, ← h k hk] at h2
      have h4 : ((P i : Nat) : Rat) ≤ ((P k : Nat) : Rat) := Rat.natCast_le_natCast.2 h3
      grind
    rw [if_neg h1, if_neg e]
    simp
theorem cmpN_le {a b : Nat} (h : a ≤ b) : cmpN a b ≤ 0 := by
  rcases Nat.lt_or_eq_of_le h with h | h
  · rw [cmpN_lt h]; decide
  · rw [cmpN_eq h]; decide
set_option maxHeartbeats 8000000 in
set_option maxRecDepth 100000 in
theorem both_p {nf : Nat → Bool} {w : World} {Bd n c L K : Nat} {A : Option Addr} {X : Nat → Rc} {q : Nat → Rat} (hx : LQ nf w Bd L A n c X q) (gL : L ≤ 400000000) (hB : Bd ≤ w.heap.size) (hc : CmH w Bd n X q K) (hK : K ≤ 130000000) {z : Int} {k : Nat} (hz : z = (k : Int)) (hk : k ≤ 1000000) {ra : Bool} (hra : vlB n q = ra) {r : Rat} (hr : (if k < n then both q k n else 0) = r) :
    Calls Try.prog 46 #[.slice A n c, .int .i64 z] w (RetRE w (K + 1) r (if ra = true then 0 else 1)) := by
  have hK4 : K ≤ 400000000 := by omega
  have hrh := hide hr
  clear hr
  subst hz
  obtain ⟨W, hW⟩ : ∃ W, W = (w.alloc (.cells #[.bool false, .slice none 0 0, .slice none 0 0] 27)) := ⟨_, rfl⟩
  have b_r : Box3 W w.heap.size (.bool false) (.slice none 0 0) (.slice none 0 0) := by rw [hW]; exact Box3.new w _ _ _ rfl
  have hwW : Below w.heap.size w W := by rw [hW]; exact (Below.refl _ _).alloc (Nat.le_refl _) _
  have HX := hide (hx.upto hwW hB)
  have HC := hide (hc.upto hwW hB)
  have hcap := hx.cap
  have hcb := hx.cbig
  have B := hide hwW
  clear hx hc hwW hB
  have U0 : Below W.heap.size W W := Below.refl _ _
  have c_r0 := b_r.at0 b_r.lt_size (Nat.le_refl _)
  have c_r1 := b_r.at1 b_r.lt_size (Nat.le_refl _)
  have c_r2 := b_r.at2 b_r.lt_size (Nat.le_refl _)
  have f_r0 := b_r.free0 b_r.lt_size (Nat.le_refl _)
  have f_r1 := b_r.free1 b_r.lt_size (Nat.le_refl _)
  have f_r2 := b_r.free2 b_r.lt_size (Nat.le_refl _)
  have l_r := b_r.lt b_r.lt_size (Nat.le_refl _)
  clear b_r
  have hrah := hide hra
  cases ra with
  | false =>
    clear hra
    go_enter Try.func46, Try.ntmps46
    go_wp2_with fail
    rw [← hW]
    clear hW
    refine (common_h HX.out gL (Nat.le_refl _) HC.out hK4 hrah.out).mono ?_
    rintro e w1 ⟨A1, m1, c1, y1, rfl, hb, hok⟩
    have U1 : Below W.heap.size W w1 := Below.then_ U0 hb
    replace B := hide (Below.then_ B.out hb)
    clear hb hok
    go_wp2
    exact bodyPost_ret (v := .tuple #[.agg #[.bool false, .slice none 0 0, .slice none 0 0], .int .i64 1]) (by simp [results, Try.results46, go_sem, c_r0 _ U1, c_r1 _ U1, c_r2 _ U1]) rfl ⟨zeroRc, rfl, fun h => by simp at h, fun _ => rfl, ((B.out.setCell (Nat.le_refl _) _).setCell (Nat.le_refl _) _).setCell (Nat.le_refl _) _⟩
  | true =>
    have h121 := (vl_len hra).1.2
    have hvl := hide hra
    clear hra
    go_enter Try.func46, Try.ntmps46
    go_wp2_with fail
    rw [← hW]
    clear hW
    refine (common_h HX.out gL (Nat.le_refl _) HC.out hK4 hrah.out).mono ?_
    rintro e w1 ⟨A1, m1, c1, y1, rfl, hb, hok⟩
    have U1 : Below W.heap.size W w1 := Below.then_ U0 hb
    replace B := hide (Below.then_ B.out hb)
    obtain ⟨X1, P, V, hmn, HL, R1, hV0, hVK, hrat⟩ := hok rfl
    have hnm := hmn.symm
    subst hnm
    clear hmn
    replace HL := hide HL
    replace R1 := hide R1
    replace hV0 := hide hV0
    replace hVK := hide hVK
    replace hrat := hide hrat
    have hPK := hide (parts_lt hvl.out hV0.out hVK.out hrat.out)
    have hcap1 := HL.out.cap
    have hcb1 := HL.out.cbig
    clear hb hok
    have t0 : decide ((0 : Int) ≤ (k : Int)) = true := by simp
    by_cases hkn : k < n
    · have t1 : decide ((k : Int) < (n : Int)) = true := by simp; omega
      have t2 : decide (k < n) = true := by simp; omega
      have hk64 : (k : Int) < (n : Int) := by omega
      have hsm := hide (show ∀ j, j ≤ n → ns (fun m => if P m ≤ P k then P m else 0) j < pw (K + 1) from fun j hj => ns_lt (fun i hi => by
        split
        · exact hPK.out i (by omega)
        · exact pw_pos _) (by omega))
      have hval := hide ((divInt_of hV0.out (both_rat hV0.out hrat.out hkn)).trans ((if_pos hkn).symm.trans hrh.out))
      have hst := hide (show Nn w1 w1.heap.size zeroNc (ns (fun m => if P m ≤ P k then P m else 0) 0) from Nn.zero _ _ (by omega) _)
      go_wp2
      go_loopw [9, 31] (fun s i wr => ∃ (j : Nat) (y : Nc), j ≤ n ∧ s = .slice y.A y.n y.c ∧ i = .int .i64 j ∧ Hid (Nn wr wr.heap.size y (ns (fun m => if P m ≤ P k then P m else 0) j)) ∧ Hid (Below w1.heap.size w1 wr)) (fun _ i _ => n - (intOf i).toNat)
      case atStart => exact ⟨0, zeroNc, Nat.zero_le _, rfl, rfl, hst, hide (Below.refl _ _)⟩
      case round =>
        obtain ⟨j, y, hj, rfl, rfl, RY, B2⟩ := hrel
        clear hst
        by_cases hjl : j < n
        · have hj64 : (j : Int) < (n : Int) := by omega
          have HW := HL.out.then_ B2.out
          obtain ⟨ad, hA, hab, E0⟩ := HW.all hjl
          obtain ⟨ad', hA', _, F0⟩ := HW.all hkn
          rw [hA] at hA'
          simp only [Option.some.injEq] at hA'
          subst hA' hA
          have RX := hide (HW.nums j hjl)
          have RK := hide (HW.nums k hkn)
          replace E0 := E0 wr (Below.refl _ _)
          replace F0 := F0 wr (Below.refl _ _)
          obtain ⟨cv, hcv⟩ : ∃ v, cmpN (P j) (P k) = v := ⟨_, rfl⟩
          have hcvh := hide hcv
          have hlj := hide (Lg.pw (hPK.out j hjl) (by omega))
          have hlk := hide (Lg.pw (hPK.out k hkn) (by omega))
          clear HW hab
          go_wp2_with fail
          refine (cmp_z (RX.out.nz hlj.out) (RK.out.nz hlk.out) hcvh.out).mono ?_
          rintro e w2 ⟨rfl, hb⟩
          replace RX := hide (RX.out.then_ hb)
          replace RY := hide (RY.out.then_ hb)
          replace B2 := hide (Below.then_ B2.out hb)
          clear hb E0 F0
          by_cases hle : P j ≤ P k
          · have t3 : decide (cv ≤ 0) = true := by
              rw [← hcv]
              exact decide_eq_true (cmpN_le hle)
            have hadd := hide (show ns (fun m => if P m ≤ P k then P m else 0) j + P j = ns (fun m => if P m ≤ P k then P m else 0) (j + 1) by rw [ns, if_pos hle])
            clear hcv hle
            go_wp2_with fail
            refine (add_z (RY.out.nz (Lg.pw (hsm.out j (by omega)) (by omega))) (RX.out.nz hlj.out) (Nat.le_refl _) hadd.out).mono ?_
            rintro e w3 ⟨x3, rfl, R3, hb⟩
            replace B2 := hide (Below.then_ B2.out hb)
            replace R3 := hide R3
            clear hb
            go_wp2
            go_roundw
            case rel => exact ⟨j + 1, x3, by omega, by go_num, by go_num, R3, B2⟩
            case measure => simp [intOf]; omega
          · have t3 : decide (cv ≤ 0) = false := by
              rw [← hcv, cmpN_gt (by omega)]
              decide
            have hadd := hide (show ns (fun m => if P m ≤ P k then P m else 0) j = ns (fun m => if P m ≤ P k then P m else 0) (j + 1) by rw [ns, if_neg hle, Nat.add_zero])
            rw [hadd.out] at RY
            clear hcv hle
            go_wp2
            go_roundw
            case rel => exact ⟨j + 1, y, by omega, by go_num, by go_num, RY, B2⟩
            case measure => simp [intOf]; omega
        · obtain rfl : j = n := by omega
          have U2 : Below W.heap.size W wr := Below.then_ U1 B2.out
          replace B := hide (Below.then_ B.out B2.out)
          replace R1 := hide (R1.out.then_ B2.out)
          have hsj := hide (hsm.out j (Nat.le_refl _))
          clear B2
          go_wp2_with fail
          refine (fraction_q (K := K + 1) (RY.out.nz (Lg.pw hsj.out (by omega))) (R1.out.nz (Lg.pw hVK.out (by omega))) (Nat.le_refl _) hV0.out hsj.out (pw_le (by omega) hVK.out) (by omega) hval.out).mono ?_
          rintro e w3 ⟨x3, rfl, R3, hb⟩
          have U3 : Below W.heap.size W w3 := Below.then_ U2 hb
          replace B := hide (Below.then_ B.out hb)
          replace R3 := hide R3
          clear hb
          go_wp2
          exact bodyPost_ret (v := .tuple #[.agg #[.bool x3.s, .slice x3.A x3.n x3.c, .slice x3.B x3.m x3.d], .int .i64 0]) (by simp [results, Try.results46, go_sem, c_r0 _ U3, c_r1 _ U3, c_r2 _ U3]) rfl ⟨x3, rfl, fun _ => R3.out.set3 (y := zeroRc) (c_r0 _ U3) (c_r1 _ U3) (c_r2 _ U3) _ _ _, fun h => absurd rfl h, ((B.out.setCell (Nat.le_refl _) _).setCell (Nat.le_refl _) _).setCell (Nat.le_refl _) _⟩
    · have t1 : decide ((k : Int) < (n : Int)) = false := by simp; omega
      have t2 : decide (k < n) = false := by simp; omega
      have RZ := hide (show Nn w1 w1.heap.size zeroNc 0 from Nn.zero _ _ (by omega) _)
      go_wp2_with fail
      refine (fraction_q (K := K + 1) (x := zeroNc) (RZ.out.nz (Lg.pw (pw_pos 1) (by omega))) (R1.out.nz (Lg.pw hVK.out (by omega))) (Nat.le_refl _) hV0.out (pw_pos _) (pw_le (by omega) hVK.out) (by omega) (q := r) (by rw [← hrh.out, if_neg hkn]; simp)).mono ?_
      rintro e w3 ⟨x3, rfl, R3, hb⟩
      have U3 : Below W.heap.size W w3 := Below.then_ U1 hb
      replace B := hide (Below.then_ B.out hb)
      replace R3 := hide R3
      clear hb
      go_wp2
      exact bodyPost_ret (v := .tuple #[.agg #[.bool x3.s, .slice x3.A x3.n x3.c, .slice x3.B x3.m x3.d], .int .i64 0]) (by simp [results, Try.results46, go_sem, c_r0 _ U3, c_r1 _ U3, c_r2 _ U3]) rfl ⟨x3, rfl, fun _ => R3.out.set3 (y := zeroRc) (c_r0 _ U3) (c_r1 _ U3) (c_r2 _ U3) _ _ _, fun h => absurd rfl h, ((B.out.setCell (Nat.le_refl _) _).setCell (Nat.le_refl _) _).setCell (Nat.le_refl _) _⟩
end
end Go.Proofs.Ytdihgmbldnekhaa
