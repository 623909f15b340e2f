/-
  ExP, ExQ, ExR, CmMath, Chance.
-/
import Derived.Test.YtdihgmbldnekhaaExRA
import Derived.Test.YtdihgmbldnekhaaNatLZ
import Derived.Test.YtdihgmbldnekhaaExRF
namespace Go.Proofs.Ytdihgmbldnekhaa
section
open Go.RowKit

theorem LN.all {w : World} {n c : Nat} {A : Option Addr} {X : Nat → Nc} {q : Nat → Nat} (h : LN w w.heap.size A n c X q) {i : Nat} (hi : i < n) : ∃ ad, A = some ad ∧ ad.block < w.heap.size ∧ (∀ w', Below w.heap.size w w' → w'.cell? (ad.add i) = some (.slice (X i).A (X i).n (X i).c)) := by
  obtain ⟨ad, e, hab, e0⟩ := h.at_ hi
  exact ⟨ad, e, hab, fun _ hb => (hb.cell (p := ad.add i) (by rw [block_add]; exact hab)).trans e0⟩
theorem OwnN.all {w : World} {B n c g k : Nat} {X : Nat → Nc} {q : Nat → Nat} (h : OwnN w B (.slice (some ⟨g, 0, none⟩) n c) n X q) (hk : k < n) :
    (∀ w', Below w.heap.size w w' → w'.cell? ⟨g, k, none⟩ = some (.slice (X k).A (X k).n (X k).c)) ∧ (∀ j w', Below w.heap.size w w' → w'.frozen? ⟨g, j, none⟩ = false) ∧ (∀ w', Below w.heap.size w w' → g < w'.heap.size) :=
  ⟨fun _ hb => (h.then_ hb).cell hk, fun j _ hb => (h.then_ hb).frozen j, fun _ hb => Nat.lt_of_lt_of_le (h.lt rfl).2 hb.size⟩
theorem Nz.lg {w : World} {Bd : Nat} {x : Nc} {m : Nat} (h : Nz w Bd x m) : Lg m := by
  obtain ⟨xs, h1, h2, h3⟩ := h
  rw [← h2]
  exact pw_le h3 h1.lt
theorem Lg.gcd {a b : Nat} (ha : Lg a) (hb : Lg b) : Lg (Nat.gcd a b) := by
  by_cases h : b = 0
  · rw [h, Nat.gcd_zero_right]; exact ha
  · exact Lg.mono (Nat.gcd_le_right a (by omega)) hb
theorem lcm_quo (a b : Nat) : a * (b / Nat.gcd a b) = Nat.lcm a b := by rw [Nat.lcm, Nat.mul_div_assoc _ (Nat.gcd_dvd_right a b)]
set_option maxHeartbeats 2000000 in
theorem lcm_z {w : World} {Bd : Nat} {x y : Nc} {a b : Nat} (hx : Nz w Bd x a) (hy : Nz w Bd y b) (hB : Bd ≤ w.heap.size) {r : Nat} (hr : Nat.lcm a b = r) : Calls Try.prog 86 #[.slice x.A x.n x.c, .slice y.A y.n y.c] w (RetC w r) := by
  have HX := hide (hx.upto (Below.refl _ _) hB)
  have HY := hide (hy.upto (Below.refl _ _) hB)
  have B := hide (Below.refl w.heap.size w)
  have hmul := hide (show a * (b / Nat.gcd a b) = r by rw [← hr]; exact lcm_quo a b)
  have hlg := hide (Lg.gcd hx.lg hy.lg)
  have hlq := hide (show Lg (b / Nat.gcd a b) from Lg.mono (Nat.div_le_self _ _) hy.lg)
  obtain ⟨g, hg⟩ : ∃ g, g = Nat.gcd a b := ⟨_, rfl⟩
  rw [← hg] at hmul hlg hlq
  replace hg := hide hg.symm
  clear hx hy hB hr
  go_enter Try.func86, Try.ntmps86
  go_wp2_with fail
  refine (gcd_z HX.out HY.out (Nat.le_refl _) hg.out).mono ?_
  rintro e w1 ⟨x1, rfl, R1, hb⟩
  replace HX := hide (HX.out.then_ hb)
  replace HY := hide (HY.out.then_ hb)
  replace B := hide (Below.then_ B.out hb)
  replace R1 := hide R1
  clear hb
  go_wp2_with fail
  refine (quo_z HY.out (R1.out.nz hlg.out) (Nat.le_refl _) rfl).mono ?_
  rintro e w2 ⟨x2, y2, ok, rfl, R2, hb⟩
  replace HX := hide (HX.out.then_ hb)
  replace B := hide (Below.then_ B.out hb)
  replace R2 := hide R2
  clear hb R1 HY
  go_wp2_with fail
  refine (mul_z HX.out (R2.out.nz hlq.out) (Nat.le_refl _) hmul.out).mono ?_
  rintro e w3 ⟨x3, rfl, R3, hb⟩
  replace B := hide (Below.then_ B.out hb)
  replace R3 := hide R3
  clear hb
  go_wp2
  go_ret
  exact ⟨x3, rfl, R3.out, B.out⟩
/-- the sum of the first n -/
def ns (p : Nat → Nat) : Nat → Nat
  | 0 => 0
  | n + 1 => ns p n + p n
theorem ns_succ (p : Nat → Nat) (n : Nat) : ns p n + p n = ns p (n + 1) := rfl
theorem ns_le {p : Nat → Nat} {M : Nat} : ∀ {n : Nat}, (∀ i, i < n → p i < M) → ns p n ≤ n * M
  | 0, _ => by simp [ns]
  | n + 1, h => by
    have h1 := ns_le (p := p) (M := M) (n := n) fun i hi => h i (by omega)
    have h2 := h n (by omega)
    rw [ns, Nat.succ_mul]
    omega
theorem ns_lt {p : Nat → Nat} {K n : Nat} (h : ∀ i, i < n → p i < pw K) (hn : n < 4294967296) : ns p n < pw (K + 1) := by
  have h1 := ns_le h
  have h2 : pw (K + 1) = 4294967296 * pw K := by rw [Nat.add_comm, pw_add]; rfl
  have h3 : 0 < pw K := pw_pos K
  rw [h2]
  exact Nat.lt_of_le_of_lt h1 (Nat.mul_lt_mul_of_lt_of_le hn (Nat.le_refl _) h3)
theorem ns_congr {p q : Nat → Nat} : ∀ {n : Nat}, (∀ i, i < n → p i = q i) → ns p n = ns q n
  | 0, _ => rfl
  | n + 1, h => by rw [ns, ns, ns_congr fun i hi => h i (by omega), h n (by omega)]
set_option maxHeartbeats 2000000 in
theorem total_n {w : World} {Bd n c K : Nat} {A : Option Addr} {X : Nat → Nc} {p : Nat → Nat} (hx : LN w Bd A n c X p) (hB : Bd ≤ w.heap.size) (hs : ∀ i, i < n → p i < pw K) (hK : K ≤ 900000000) (hn : n ≤ 1000000) {r : Nat} (hr : ns p n = r) :
    Calls Try.prog 75 #[.slice A n c] w (RetC w r) := by
  have hcap := hx.cap
  have hcb := hx.cbig
  have HX := hide (hx.upto (Below.refl _ _) hB)
  have B := hide (Below.refl w.heap.size w)
  have hsh := hide hs
  have hrh := hide hr
  have hz := hide (show Nn w w.heap.size zeroNc (ns p 0) from Nn.zero _ _ (by omega) _)
  clear hx hB hs hr
  go_enter Try.func75, Try.ntmps75
  go_wp2
  go_loopw [3, 8] (fun s i wr => ∃ (k : Nat) (y : Nc), k ≤ n ∧ s = .slice y.A y.n y.c ∧ i = .int .i64 k ∧ Hid (Nn wr wr.heap.size y (ns p k)) ∧ Hid (Below w.heap.size w wr)) (fun _ i _ => n - (intOf i).toNat)
  case atStart => exact ⟨0, zeroNc, Nat.zero_le _, rfl, rfl, hz, B⟩
  case round =>
    obtain ⟨k, y, hk, rfl, rfl, RY, B2⟩ := hrel
    clear hz B
    by_cases hkl : k < n
    · have HW := HX.out.then_ B2.out
      obtain ⟨ad, hA, hab, E0⟩ := HW.all hkl
      subst hA
      have hk64 : (k : Int) < (n : Int) := by omega
      have RX := hide ((HW.nums k hkl).nz (Lg.pw (hsh.out k hkl) (by omega)))
      have RZ := hide (RY.out.nz (Lg.pw (ns_lt (K := K) (fun i hi => hsh.out i (by omega)) (by omega)) (by omega)))
      replace E0 := E0 wr (Below.refl _ _)
      clear HW hab
      go_wp2_with fail
      refine (add_z RZ.out RX.out (Nat.le_refl _) (ns_succ p k)).mono ?_
      rintro e w1 ⟨x1, rfl, R1, hb⟩
      have B3 := hide (Below.then_ B2.out hb)
      replace R1 := hide R1
      clear hb E0
      go_wp2
      go_roundw
      case rel => exact ⟨k + 1, x1, by omega, by go_num, by go_num, R1, B3⟩
      case measure => simp [intOf]; omega
    · obtain rfl : k = n := by omega
      rw [hrh.out] at RY
      go_wp2
      go_ret
      exact ⟨y, rfl, RY.out, B2.out⟩
set_option maxHeartbeats 8000000 in
set_option maxRecDepth 100000 in
theorem fraction_q {w : World} {Bd K : Nat} {x y : Nc} {a b : Nat} (hx : Nz w Bd x a) (hy : Nz w Bd y b) (hB : Bd ≤ w.heap.size) (hb0 : b ≠ 0) (ha : a < pw K) (hb : b < pw K) (hK : 1 ≤ K) {q : Rat} (hq : Rat.divInt (a : Int) (b : Int) = q) :
    Calls Try.prog 51 #[.slice x.A x.n x.c, .slice y.A y.n y.c] w (RetN w K q) := by
  obtain ⟨W, hW⟩ : ∃ W, W = (w.alloc (.cells #[.bool false, .slice none 0 0, .slice none 0 0] 27)) := ⟨_, rfl⟩
  have b_r : Box3 W w.heap.size (.bool false) (.slice none 0 0) (.slice none 0 0) := by rw [hW]; exact Box3.new w _ _ _ rfl
  have hwW : Below w.heap.size w W := by rw [hW]; exact (Below.refl _ _).alloc (Nat.le_refl _) _
  obtain ⟨xs, h1, h2, h3⟩ := hx
  obtain ⟨ys, k1, k2, k3⟩ := hy
  have RX := hide (h1.upto hwW hB)
  have RY := hide (k1.upto hwW hB)
  have hsz := hide (sz_divInt hq (i := K) (by simpa [zmag] using ha) (by simpa [zmag] using hb) hK)
  have hq' := hide (show Rat.divInt (iv false (val xs)) (iv false (val ys)) = q by rw [h2, k2]; simpa [iv] using hq)
  have hok := hide (show decide (iv false (val ys) ≠ 0) = true by rw [k2]; simp [iv, hb0])
  have B := hide hwW
  have U0 : Below W.heap.size W W := Below.refl _ _
  have c_r0 := b_r.at0 b_r.lt_size (Nat.le_refl _)
  have c_r1 := b_r.at1 b_r.lt_size (Nat.le_refl _)
  have c_r2 := b_r.at2 b_r.lt_size (Nat.le_refl _)
  have f_r0 := b_r.free0 b_r.lt_size (Nat.le_refl _)
  have f_r1 := b_r.free1 b_r.lt_size (Nat.le_refl _)
  have f_r2 := b_r.free2 b_r.lt_size (Nat.le_refl _)
  have l_r := b_r.lt b_r.lt_size (Nat.le_refl _)
  clear b_r hwW h1 h2 k1 k2 ha hb hq hB hb0
  go_enter Try.func51, Try.ntmps51
  go_wp2_with fail
  rw [← hW]
  clear hW
  refine (pmake_any RX.out (by omega) RY.out (by omega) (Nat.le_refl _) hq'.out hok.out).mono ?_
  rintro e w1 ⟨A6, c6, B6, d6, rfl, R6, R7, hb1⟩
  obtain ⟨z, hz⟩ : ∃ z : Rc, z = ⟨zneg q.num, A6, (dig (zmag q.num)).length, c6, B6, (dig q.den).length, d6⟩ := ⟨_, rfl⟩
  have RN := hide (show Nq w1 w1.heap.size K z q by rw [hz]; exact ⟨rfl, R6, R7, hsz.out.1, hsz.out.2⟩)
  have z1 : zneg q.num = z.s := by rw [hz]
  have z2 : Value.slice A6 (dig (zmag q.num)).length c6 = .slice z.A z.n z.c := by rw [hz]
  have z3 : Value.slice B6 (dig q.den).length d6 = .slice z.B z.m z.d := by rw [hz]
  rw [z1, z2, z3]
  clear z1 z2 z3 hz R6 R7
  have U1 : Below W.heap.size W w1 := Below.then_ U0 hb1
  have hal : Below w1.heap.size w1 (w1.alloc (.cells #[.bool z.s, .slice z.A z.n z.c, .slice z.B z.m z.d] 27)) := (Below.refl _ _).alloc (Nat.le_refl _) _
  have U2 : Below W.heap.size W (w1.alloc (.cells #[.bool z.s, .slice z.A z.n z.c, .slice z.B z.m z.d] 27)) := Below.then_ U1 hal
  replace B := hide (Below.then_ (Below.then_ B.out hb1) hal)
  replace RN := hide (RN.out.then_ hal)
  have hl := l_r w1 U1
  clear hb1 hal
  go_wp2
  have e : ((((w1.setCell ⟨w.heap.size, 0, none⟩ (.bool z.s)).setCell ⟨w.heap.size, 1, none⟩ (.slice z.A z.n z.c)).setCell ⟨w.heap.size, 2, none⟩ (.slice z.B z.m z.d)).alloc (.cells #[.bool z.s, .slice z.A z.n z.c, .slice z.B z.m z.d] 27)) = ((((w1.alloc (.cells #[.bool z.s, .slice z.A z.n z.c, .slice z.B z.m z.d] 27)).setCell ⟨w.heap.size, 0, none⟩ (.bool z.s)).setCell ⟨w.heap.size, 1, none⟩ (.slice z.A z.n z.c)).setCell ⟨w.heap.size, 2, none⟩ (.slice z.B z.m z.d)) := by
    rw [World.setCell_alloc_past _ _ _ _ hl, World.setCell_alloc_past _ _ _ _ (by simpa using hl), World.setCell_alloc_past _ _ _ _ (by simpa using hl)]
  rw [e]
  exact bodyPost_ret (v := .agg #[.bool z.s, .slice z.A z.n z.c, .slice z.B z.m z.d]) (by simp [results, Try.results51, go_sem, c_r0 _ U2, c_r1 _ U2, c_r2 _ U2]) rfl (RetN.box (x := z) B.out (Nat.le_refl _) (c_r0 _ U2) (c_r1 _ U2) (c_r2 _ U2) RN.out)
set_option maxHeartbeats 2000000 in
theorem power_z {w : World} {Bd : Nat} {x : Nc} {a : Nat} (hx : Nz w Bd x a) (hB : Bd ≤ w.heap.size) {z : Int} {k : Nat} (hz : z = (k : Int)) (hk : k ≤ 512) {r : Nat} (hr : a ^ k = r) : Calls Try.prog 49 #[.slice x.A x.n x.c, .int .i64 z] w (RetC w r) := by
  have HX := hide (hx.upto (Below.refl _ _) hB)
  have hzh := hide hz
  have hrh := hide hr
  clear hx hB hz hr
  go_enter Try.func49, Try.ntmps49
  go_wp2_with fail
  refine (pow_z HX.out (Nat.le_refl _) hzh.out hk hrh.out).mono ?_
  rintro e w1 ⟨x1, rfl, R1, hb⟩
  replace R1 := hide R1
  have B := hide hb
  clear hb
  go_wp2
  go_ret
  exact ⟨x1, rfl, R1.out, B.out⟩
end

section
open Go.RowKit

theorem of1_c (w : World) : Calls Try.prog 53 #[.int .u64 1] w (RetC w 1) := of_c (m := 1) (by omega)
theorem nq_one {w : World} {Bd : Nat} {x y : Nc} (hx : Nn w Bd x 1) (hy : Nn w Bd y 1) : Nq w Bd 1 ⟨false, x.A, x.n, x.c, y.A, y.n, y.c⟩ 1 :=
  Nq.mk hx hy (by omega) rfl (by decide) (by decide) (by decide +kernel)
set_option maxHeartbeats 8000000 in
set_option maxRecDepth 100000 in
theorem isprob_q {w : World} {Bd L : Nat} {x : Rc} {q : Rat} (h : Rq w Bd L x q) (gL : L ≤ 400000000) (hB : Bd ≤ w.heap.size) {b : Bool} (hb : shB q = b) :
    Calls Try.prog 47 #[.agg #[.bool x.s, .slice x.A x.n x.c, .slice x.B x.m x.d]] w (RetB w (.bool b)) := by
  obtain ⟨W, hW⟩ : ∃ W, W = (w.alloc (.cells #[.bool x.s, .slice x.A x.n x.c, .slice x.B x.m x.d] 27)) := ⟨_, rfl⟩
  have b_p : Box3 W (w.heap.size) (.bool x.s) (.slice x.A x.n x.c) (.slice x.B x.m x.d) := by rw [hW]; exact (Box3.new w _ _ _ rfl)
  have hwW : Below w.heap.size w W := by rw [hW]; exact ((Below.refl _ _).alloc (Nat.le_refl _) _)
  have U0 : Below W.heap.size W W := Below.refl _ _
  have c_p0 := b_p.at0 b_p.lt_size (Nat.le_refl _)
  have c_p1 := b_p.at1 b_p.lt_size (Nat.le_refl _)
  have c_p2 := b_p.at2 b_p.lt_size (Nat.le_refl _)
  clear b_p
  have RP := hide (h.upto hwW hB)
  have B := hide hwW
  have hbh := hide hb
  clear h hwW hB hb
  obtain ⟨sg, hsg⟩ : ∃ v, sgn q.num = v := ⟨_, rfl⟩
  obtain ⟨cv, hcv⟩ : ∃ v, sgn (q - 1).num = v := ⟨_, rfl⟩
  have hsgh := hide hsg
  have hcvh := hide hcv
  have hbx := Below.drw_ W
  by_cases hneg : sg < 0
  · have d0 : decide ((0 : Int) ≤ sg) = false := by simp; omega
    have hres := hide (show shB q = false by
      rw [← hsg, sgnq_neg] at hneg
      simp only [shB, decide_eq_false_iff_not]
      intro h
      grind)
    clear hneg hsg hcv
    go_enter Try.func47, Try.ntmps47
    go_wp2_with fail
    rw [← hW]
    clear hW
    go_region_with (go_at_call 39; refine (sign_q (RP.out.then_ hbx) gL (Nat.le_refl _) hsgh.out).mono ?_; rintro e w7 ⟨rfl, hb7⟩; have U7 : Below W.heap.size W w7 := Below.then_ hbx hb7; have hend := hide (Below.then_ B.out U7); clear hb7)
    all_goals
      go_wp2
      go_ret
      exact ⟨by rw [← hbh.out, hres.out]; rfl, hend.out⟩
  · have d0 : decide ((0 : Int) ≤ sg) = true := by simp; omega
    have hres := hide (show shB q = decide (cv ≤ 0) by
      rw [← hsg, sgnq_neg] at hneg
      rw [← hcv]
      unfold shB
      exact decide_eq_decide.2 ⟨fun h => cmp_le.2 h.2, fun h => ⟨by grind, cmp_le.1 h⟩⟩)
    clear hneg hsg hcv
    go_enter Try.func47, Try.ntmps47
    go_wp2_with fail
    rw [← hW]
    clear hW
    have tok0 : True := trivial
    go_region_with (first | (go_at_call 39; refine (sign_q (RP.out.then_ hbx) gL (Nat.le_refl _) hsgh.out).mono ?_; rintro e w7 ⟨rfl, hb7⟩; have U7 : Below W.heap.size W w7 := Below.then_ hbx hb7; clear hb7) | (go_at_call 53; (have _t := tok0; refine (of1_c _).mono ?_); rintro e w8 ⟨x8, rfl, R8, hb8⟩; have U8 : Below W.heap.size W w8 := Below.then_ U7 hb8; replace R8 := hide R8; clear hb8; have tok1 : True := trivial; clear _t tok0) | (go_at_call 53; (have _t := tok1; refine (of1_c _).mono ?_); rintro e w9 ⟨x9, rfl, R9, hb9⟩; have U9 : Below W.heap.size W w9 := Below.then_ U8 hb9; replace R8 := hide (R8.out.then_ hb9); replace R9 := hide R9; clear hb9; clear _t tok1) | (go_at_call 19; (first | refine (cmp_q (RP.out.then_ U9) gL (nq_one R8.out R9.out).rq (by omega) (Nat.le_refl _) hcvh.out).mono ?_ | refine (cmp_q (RP.out.then_ U9) gL (nq_one R9.out R8.out).rq (by omega) (Nat.le_refl _) hcvh.out).mono ?_); rintro e w10 ⟨rfl, hb10⟩; have U10 : Below W.heap.size W w10 := Below.then_ U9 hb10; have hend := hide (Below.then_ B.out U10); clear hb10))
    all_goals
      go_wp2
      go_ret
      exact ⟨by rw [← hbh.out, hres.out]; rfl, hend.out⟩
end

section
open Go.RowKit

/-- three numbers were handed back -/
def RetC3 (w : World) (a b c : Nat) (e : Ending) (w' : World) : Prop := ∃ x y z : Nc, e = .returned (.tuple #[.slice x.A x.n x.c, .slice y.A y.n y.c, .slice z.A z.n z.c]) ∧ Nn w' w'.heap.size x a ∧ Nn w' w'.heap.size y b ∧ Nn w' w'.heap.size z c ∧ Below w.heap.size w w'
theorem share_num {q : Rat} (h0 : 0 ≤ q) (h1 : q ≤ 1) : zmag q.num ≤ q.den := by
  have h2 : 0 ≤ q.num := Rat.num_nonneg.2 h0
  have h3 := mul_den q
  have h4 : q * (q.den : Rat) ≤ 1 * (q.den : Rat) := Rat.mul_le_mul_of_nonneg_right h1 Rat.natCast_nonneg
  rw [h3, Rat.one_mul] at h4
  have h5 : q.num ≤ (q.den : Int) := Rat.intCast_le_intCast.1 (by rw [Rat.intCast_natCast]; exact h4)
  unfold zmag
  omega
set_option maxHeartbeats 8000000 in
set_option maxRecDepth 100000 in
theorem chances_q {w : World} {Bd L : Nat} {x : Rc} {q : Rat} (h : Rq w Bd L x q) (gL : L ≤ 200000000) (hB : Bd ≤ w.heap.size) (h0 : 0 ≤ q) (h1 : q ≤ 1) {a b c : Nat} (ha : zmag q.num = a) (hb : c - a = b) (hc : q.den = c) :
    Calls Try.prog 48 #[.agg #[.bool x.s, .slice x.A x.n x.c, .slice x.B x.m x.d]] w (RetC3 w a b c) := by
  obtain ⟨W, hW⟩ : ∃ W, W = (w.alloc (.cells #[.bool x.s, .slice x.A x.n x.c, .slice x.B x.m x.d] 27)) := ⟨_, rfl⟩
  have b_p : Box3 W (w.heap.size) (.bool x.s) (.slice x.A x.n x.c) (.slice x.B x.m x.d) := by rw [hW]; exact (Box3.new w _ _ _ rfl)
  have hwW : Below w.heap.size w W := by rw [hW]; exact ((Below.refl _ _).alloc (Nat.le_refl _) _)
  have U0 : Below W.heap.size W W := Below.refl _ _
  have c_p0 := b_p.at0 b_p.lt_size (Nat.le_refl _)
  have c_p1 := b_p.at1 b_p.lt_size (Nat.le_refl _)
  have c_p2 := b_p.at2 b_p.lt_size (Nat.le_refl _)
  have l_p := b_p.lt b_p.lt_size (Nat.le_refl _)
  have f_p2 := b_p.free2 b_p.lt_size (Nat.le_refl _)
  have f_p1 := b_p.free1 b_p.lt_size (Nat.le_refl _)
  have f_p0 := b_p.free0 b_p.lt_size (Nat.le_refl _)
  have RP := hide (h.upto hwW hB)
  have B := hide hwW
  have hle := hide (show a ≤ c by rw [← ha, ← hc]; exact share_num h0 h1)
  have hbp := hide b_p
  have hah := hide ha
  have hbh := hide hb
  have hch := hide hc
  clear h hwW hB h0 h1 b_p ha hb hc
  go_enter Try.func48, Try.ntmps48
  go_wp2_with fail
  rw [← hW]
  clear hW
  refine (norm_q RP.out (by omega) (Nat.le_refl _) rfl).mono ?_
  rintro e w1 ⟨x1, rfl, R1, hb1⟩
  have U1 : Below W.heap.size W w1 := Below.then_ U0 hb1
  have hbp1 := hide (hbp.out.keep hb1)
  have RN := hide (R1.set3 (y := x) (c_p0 _ U1) (c_p1 _ U1) (c_p2 _ U1) (.bool x1.s) (.slice x1.A x1.n x1.c) (.slice x1.B x1.m x1.d))
  have B2 := hide (((Below.setCell (p := ⟨w.heap.size, 0, none⟩) (Below.then_ B.out hb1) (Nat.le_refl _) (.bool x1.s)).setCell (p := ⟨w.heap.size, 1, none⟩) (Nat.le_refl _) (.slice x1.A x1.n x1.c)).setCell (p := ⟨w.heap.size, 2, none⟩) (Nat.le_refl _) (.slice x1.B x1.m x1.d))
  have hbp2 := hide (hbp1.out.set (.bool x1.s) (.slice x1.A x1.n x1.c) (.slice x1.B x1.m x1.d))
  clear R1 hb1 hbp1 hbp
  go_wp2_with fail
  obtain ⟨V, hV⟩ : ∃ V, V = ((w1.setCell ⟨w.heap.size, 0, none⟩ (.bool x1.s)).setCell ⟨w.heap.size, 1, none⟩ (.slice x1.A x1.n x1.c)).setCell ⟨w.heap.size, 2, none⟩ (.slice x1.B x1.m x1.d) := ⟨_, rfl⟩
  rw [← hV] at hbp2 RN B2 ⊢
  clear hV B U0 U1 c_p0 c_p1 c_p2 l_p f_p0 f_p1 f_p2
  have c_p0 := hbp2.out.at0 hbp2.out.lt_size (Nat.le_refl _)
  have c_p1 := hbp2.out.at1 hbp2.out.lt_size (Nat.le_refl _)
  have c_p2 := hbp2.out.at2 hbp2.out.lt_size (Nat.le_refl _)
  have hlt := hide RN.out.lt
  have RA := hide RN.out.num
  have RC := hide RN.out.den
  rw [hah.out] at RA hlt
  rw [hch.out] at RC hlt
  clear hbp2 RN
  go_wp2_with fail
  refine (sub_z (RC.out.nz (Lg.pw hlt.out.2 (by omega))) (RA.out.nz (Lg.pw hlt.out.1 (by omega))) (Nat.le_refl _) hle.out hbh.out).mono ?_
  rintro e w2 ⟨x2, rfl, R2, hb2⟩
  replace R2 := hide R2
  replace RA := hide (RA.out.then_ hb2)
  replace RC := hide (RC.out.then_ hb2)
  have B3 := hide (Below.then_ B2.out hb2)
  have hbx := Below.then_ hb2 (Below.drw_ w2)
  go_wp2_with fail
  go_region
  go_wp2
  go_ret3
  exact ⟨⟨x1.A, x1.n, x1.c⟩, x2, ⟨x1.B, x1.m, x1.d⟩, rfl, RA.out.then_ (Below.drw_ w2), R2.out.then_ (Below.drw_ w2), RC.out.then_ (Below.drw_ w2), Below.then_ B3.out (Below.drw_ w2)⟩
end

section
open Go.RowKit

/-- the least common multiple of the denominators of those above 0 -/
def lcw (q : Nat → Rat) (dn : Nat → Nat) : Nat → Nat
  | 0 => 1
  | k + 1 => if 0 < q k then Nat.lcm (lcw q dn k) (dn k) else lcw q dn k
theorem lcw_yes {q : Nat → Rat} {dn : Nat → Nat} {k : Nat} (h : 0 < q k) : Nat.lcm (lcw q dn k) (dn k) = lcw q dn (k + 1) := by rw [lcw, if_pos h]
theorem lcw_no {q : Nat → Rat} {dn : Nat → Nat} {k : Nat} (h : ¬ 0 < q k) : lcw q dn k = lcw q dn (k + 1) := by rw [lcw, if_neg h]
theorem lcw_step (q : Nat → Rat) (dn : Nat → Nat) (k : Nat) : lcw q dn k ∣ lcw q dn (k + 1) := by
  by_cases h : 0 < q k
  · rw [← lcw_yes h]; exact Nat.dvd_lcm_left _ _
  · rw [← lcw_no h]; exact Nat.dvd_refl _
theorem lcw_mono (q : Nat → Rat) (dn : Nat → Nat) (k : Nat) : ∀ j, lcw q dn k ∣ lcw q dn (k + j)
  | 0 => Nat.dvd_refl _
  | j + 1 => Nat.dvd_trans (lcw_mono q dn k j) (lcw_step q dn (k + j))
theorem lcw_dvd {q : Nat → Rat} {dn : Nat → Nat} {k n : Nat} (h : k < n) (hq : 0 < q k) : dn k ∣ lcw q dn n := by
  have h1 : dn k ∣ lcw q dn (k + 1) := by rw [← lcw_yes hq]; exact Nat.dvd_lcm_right _ _
  have h2 := lcw_mono q dn (k + 1) (n - (k + 1))
  rw [show k + 1 + (n - (k + 1)) = n by omega] at h2
  exact Nat.dvd_trans h1 h2
theorem lcw_pos {q : Nat → Rat} {dn : Nat → Nat} : ∀ {n : Nat}, (∀ i, i < n → 0 < q i → dn i ≠ 0) → 0 < lcw q dn n
  | 0, _ => Nat.one_pos
  | n + 1, h => by
    have ih := lcw_pos (q := q) (dn := dn) (n := n) fun i hi => h i (by omega)
    by_cases e : 0 < q n
    · rw [← lcw_yes e]; exact Nat.lcm_pos ih (Nat.pos_of_ne_zero (h n (by omega) e))
    · rw [← lcw_no e]; exact ih
theorem lcw_le {q : Nat → Rat} {dn : Nat → Nat} {k n : Nat} (hk : k ≤ n) (h : ∀ i, i < n → 0 < q i → dn i ≠ 0) : lcw q dn k ≤ lcw q dn n := by
  have h2 := lcw_mono q dn k (n - k)
  rw [show k + (n - k) = n by omega] at h2
  exact Nat.le_of_dvd (lcw_pos h) h2
/-- of numbers in lowest terms that are multiples of 1 / P -/
theorem lcw_of {q : Nat → Rat} {dn : Nat → Nat} {P : Nat} : ∀ {n : Nat}, (∀ i, i < n → dn i ∣ P) → lcw q dn n ∣ P
  | 0, _ => Nat.one_dvd _
  | n + 1, h => by
    have ih := lcw_of (q := q) (dn := dn) (P := P) (n := n) fun i hi => h i (by omega)
    by_cases e : 0 < q n
    · rw [← lcw_yes e]; exact Nat.lcm_dvd ih (h n (by omega))
    · rw [← lcw_no e]; exact ih
/-- .. of any numbers: no larger than all denominators together -/
theorem lcw_sz {q : Nat → Rat} {dn : Nat → Nat} {s : Nat → Nat} : ∀ {n : Nat}, (∀ i, i < n → dn i < pw (s i)) → lcw q dn n < pw (ns s n + 1)
  | 0, _ => by show 1 < pw 1; decide
  | n + 1, h => by
    have ih := lcw_sz (q := q) (dn := dn) (s := s) (n := n) fun i hi => h i (by omega)
    have hn := h n (by omega)
    rw [ns, show ns s n + s n + 1 = (ns s n + 1) + s n by omega]
    by_cases e : 0 < q n
    · rw [← lcw_yes e, pw_add, Nat.lcm]
      exact Nat.lt_of_le_of_lt (Nat.div_le_self _ _) (Nat.mul_lt_mul'' ih hn)
    · rw [← lcw_no e]; exact pw_le (by omega) ih
theorem part_rat {s : Bool} {a b W : Nat} {q : Rat} (h0 : 0 ≤ q) (h : qv s a b = q) (hd : 0 < q → b ∣ W) : ((a * (W / b) : Nat) : Rat) = q * (W : Rat) := by
  by_cases hb : b = 0
  · rw [hb, qv_zero] at h
    rw [hb, ← h]
    simp
  · have e : q * (b : Rat) = ((iv s a : Int) : Rat) := by
      rw [← h, qv_ne hb, Rat.divInt_eq_div, Rat.intCast_natCast]
      exact Rat.div_mul_cancel (natCast_ne hb)
    have hn : (0 : Rat) ≤ ((iv s a : Int) : Rat) := by rw [← e]; exact Rat.mul_nonneg h0 Rat.natCast_nonneg
    have hi : 0 ≤ iv s a := Rat.intCast_nonneg.1 hn
    have ha : iv s a = (a : Int) := by
      have := iv_natAbs s a
      omega
    rw [ha, Rat.intCast_natCast] at e
    by_cases hq : 0 < q
    · obtain ⟨t, rfl⟩ := hd hq
      rw [Nat.mul_div_cancel_left _ (Nat.pos_of_ne_zero hb), Rat.natCast_mul, Rat.natCast_mul, ← e]
      grind
    · have hq0 : q = 0 := by grind
      rw [hq0] at e ⊢
      have ha0 : a = 0 := by
        have e2 : ((0 : Nat) : Rat) = (a : Rat) := by rw [← e]; simp
        exact (Rat.natCast_inj.1 e2).symm
      rw [ha0]
      simp
theorem parts_sum {P : Nat → Nat} {q : Nat → Rat} {W : Nat} : ∀ {n : Nat}, (∀ i, i < n → (P i : Rat) = q i * (W : Rat)) → ((ns P n : Nat) : Rat) = qs q n * (W : Rat)
  | 0, _ => by simp [ns, qs]
  | n + 1, h => by
    rw [ns, qs, Rat.natCast_add, parts_sum fun i hi => h i (by omega), h n (by omega)]
    grind
theorem parts_one {P : Nat → Nat} {q : Nat → Rat} {W n : Nat} (hW : W ≠ 0) (h : ∀ i, i < n → (P i : Rat) = q i * (W : Rat)) : ns P n = W ↔ qs q n = 1 := by
  have e := parts_sum h
  have hw := natCast_ne hW
  constructor
  · intro e2
    rw [e2] at e
    have : qs q n * (W : Rat) = 1 * (W : Rat) := by rw [← e, Rat.one_mul]
    have e3 := congrArg (fun x => x / (W : Rat)) this
    simp only [Rat.mul_div_cancel hw] at e3
    exact e3
  · intro e2
    rw [e2, Rat.one_mul] at e
    exact Rat.natCast_inj.1 e
theorem cmpN_zero {a b : Nat} : cmpN a b = 0 ↔ a = b := by
  constructor
  · intro h
    rcases Nat.lt_trichotomy a b with h1 | h1 | h1
    · rw [cmpN_lt h1] at h; cases h
    · exact h1
    · rw [cmpN_gt h1] at h; cases h
  · exact cmpN_eq
theorem vl_parts {P : Nat → Nat} {q : Nat → Rat} {W n : Nat} (hn : 1 ≤ n ∧ n ≤ 121) (h0 : ∀ i, i < n → 0 ≤ q i) (hW : W ≠ 0) (h : ∀ i, i < n → (P i : Rat) = q i * (W : Rat)) : vlB n q = ((cmpN (ns P n) W : Int) == 0) := by
  by_cases e : qs q n = 1
  · rw [vl_yes ⟨hn, h0, e⟩, (cmpN_zero).2 ((parts_one hW h).2 e)]; rfl
  · rw [vl_no fun h2 => e h2.2.2]
    have : cmpN (ns P n) W ≠ 0 := fun h3 => e ((parts_one hW h).1 (cmpN_zero.1 h3))
    simp [this]
/-- the numbers' parts -/
def PN (w : World) (Bd n : Nat) (X : Nat → Rc) (nu dn : Nat → Nat) : Prop := ∀ i, i < n → Nz w Bd ⟨(X i).A, (X i).n, (X i).c⟩ (nu i) ∧ Nz w Bd ⟨(X i).B, (X i).m, (X i).d⟩ (dn i)
theorem PN.upto {w w' : World} {Bd n : Nat} {X : Nat → Rc} {nu dn : Nat → Nat} (h : PN w Bd n X nu dn) (hb : Below w.heap.size w w') (hB : Bd ≤ w.heap.size) : PN w' w'.heap.size n X nu dn := fun i hi => ⟨(h i hi).1.upto hb hB, (h i hi).2.upto hb hB⟩
theorem PN.then_ {w w' : World} {n : Nat} {X : Nat → Rc} {nu dn : Nat → Nat} (h : PN w w.heap.size n X nu dn) (hb : Below w.heap.size w w') : PN w' w'.heap.size n X nu dn := h.upto hb (Nat.le_refl _)
theorem LQ.parts {nf : Nat → Bool} {w : World} {Bd L n c : Nat} {A : Option Addr} {X : Nat → Rc} {q : Nat → Rat} (h : LQ nf w Bd L A n c X q) (hL : L ≤ 1000000000) :
    ∃ nu dn : Nat → Nat, PN w Bd n X nu dn ∧ ∀ i, i < n → qv (X i).s (nu i) (dn i) = q i ∧ nu i < pw (X i).n ∧ dn i < pw (X i).m ∧ (X i).n ≤ L ∧ (X i).m ≤ L := by
  have key : ∀ i, ∃ ab : Nat × Nat, i < n → Nz w Bd ⟨(X i).A, (X i).n, (X i).c⟩ ab.1 ∧ Nz w Bd ⟨(X i).B, (X i).m, (X i).d⟩ ab.2 ∧ qv (X i).s ab.1 ab.2 = q i ∧ ab.1 < pw (X i).n ∧ ab.2 < pw (X i).m ∧ (X i).n ≤ L ∧ (X i).m ≤ L := fun i => by
    by_cases hi : i < n
    · obtain ⟨a, b, h1, h2, h3, h4, h5, h6, h7⟩ := (h.nums i hi).1.parts hL
      exact ⟨(a, b), fun _ => ⟨h1, h2, h7, h3, h4, h5, h6⟩⟩
    · exact ⟨(0, 0), fun h => absurd h hi⟩
  obtain ⟨f, hf⟩ := Classical.axiomOfChoice key
  exact ⟨fun i => (f i).1, fun i => (f i).2, fun i hi => ⟨(hf i hi).1, (hf i hi).2.1⟩, fun i hi => (hf i hi).2.2⟩
/-- .. in normal form: the parts are those of the number -/
theorem LQ.parts_n {w : World} {Bd L n c : Nat} {A : Option Addr} {X : Nat → Rc} {q : Nat → Rat} (h : LQ (fun _ => true) w Bd L A n c X q) (hL : L ≤ 1000000000) :
    PN w Bd n X (fun i => zmag (q i).num) (fun i => (q i).den) ∧ ∀ i, i < n → qv (X i).s (zmag (q i).num) (q i).den = q i ∧ zmag (q i).num < pw L := by
  refine ⟨fun i hi => ?_, fun i hi => ?_⟩
  · have hq := (h.nums i hi).nq
    exact ⟨hq.num.nz (Lg.pw hq.lt.1 hL), hq.den.nz (Lg.pw hq.lt.2 hL)⟩
  · have hq := (h.nums i hi).nq
    refine ⟨?_, hq.lt.1⟩
    rw [hq.1]
    have e := qv_eta (q i)
    rw [val_dig, val_dig] at e
    exact e
end

section
open Go.RowKit

theorem chance_rat {q : Rat} (h0 : 0 ≤ q) (h1 : q ≤ 1) : ((zmag q.num : Nat) : Rat) = q * (q.den : Rat) ∧ ((q.den - zmag q.num : Nat) : Rat) = (1 - q) * (q.den : Rat) := by
  have hn : 0 ≤ q.num := Rat.num_nonneg.2 h0
  have e : (q.num : Rat) = ((zmag q.num : Nat) : Rat) := by
    rw [← Rat.intCast_natCast]
    congr 1
    unfold zmag
    omega
  have m := mul_den q
  rw [e] at m
  refine ⟨m.symm, ?_⟩
  have h2 := share_num h0 h1
  have h3 : ((q.den - zmag q.num : Nat) : Rat) + ((zmag q.num : Nat) : Rat) = (q.den : Rat) := by rw [← Rat.natCast_add, Nat.sub_add_cancel h2]
  grind
end
end Go.Proofs.Ytdihgmbldnekhaa
