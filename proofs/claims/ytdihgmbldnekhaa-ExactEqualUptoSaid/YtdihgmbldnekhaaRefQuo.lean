/-
  RefDiv, RefDiv2, RefDivMod.
-/
import Derived.Test.YtdihgmbldnekhaaRefMove
import Derived.Test.YtdihgmbldnekhaaRefTexts
import Derived.Test.YtdihgmbldnekhaaNatLong
import Derived.Test.YtdihgmbldnekhaaNatBits
namespace Go.Proofs.Ytdihgmbldnekhaa
section
open Go.RowKit

def RetSubF (w : World) (m : Nat) (e : Ending) (w' : World) : Prop :=
  ∃ g, w.heap.size ≤ g ∧ e = .returned (.tuple #[.slice (some ⟨g, 0, none⟩) (dig m).length (dig m).length, .bool true]) ∧ Own w' g (dig m) ∧ Below w.heap.size w w' ∧ (dig m).length ≤ 70368744177664

set_option maxHeartbeats 1000000 in
theorem rsub_fresh (w : World) (Bd : Nat) (A A' : Option Addr) (n c n' c' : Nat) (xs ys : List Nat) (hx : Rd w Bd A n c xs) (hy : Rd w Bd A' n' c' ys) (hB : Bd ≤ w.heap.size) (hle : val ys ≤ val xs) :
    Calls Try.prog 137 #[.slice A n c, .slice A' n' c'] w (RetSubF w (val xs - val ys)) := by
  obtain ⟨z, hz⟩ : ∃ z : Int, z = cmpN (val xs) (val ys) := ⟨_, rfl⟩
  have hz0 : 0 ≤ z := by rw [hz]; exact cmpN_ge hle
  have hC := hide hz.symm
  have hle := hide hle
  clear hz
  have hbig := hx.big
  have hcap := hx.cap
  have HX := hide hx
  have HY := hide hy
  clear hx hy
  go_enter Try.func137, Try.ntmps137
  go_wp2_with (first
    | (go_at_call 125; ((with_reducible refine (rcmp_any _ Bd A A' n c n' c' xs ys HX.out HY.out).mono ?_); rw [hC.out]; rintro e w' ⟨rfl, rfl⟩))
    | (at_make; refine wpList_make_nat _ rfl _ _ rfl _ _ _ _ n rfl rfl (by omega) (by omega) (by omega) ?_; intro w1 hown hb hg))
  go_loopw [7, 8] (fun bw i wr => ∃ k q : Nat, k ≤ n ∧ q ≤ 1 ∧ i = .int .i64 k ∧ bw = .int .u64 q ∧ ∃ os, os.length = n ∧ vl os k + vl ys k = vl xs k + pw k * q ∧ Own wr w.heap.size os ∧ Below w.heap.size w wr) (fun _ i _ => n - (intOf i).toNat)
  case atStart => exact ⟨0, 0, by omega, by omega, rfl, rfl, List.replicate n 0, List.length_replicate, rfl, hown, hb⟩
  case round =>
    obtain ⟨k, q, hk, hq, rfl, rfl, os, hos, hval, hO, hBl⟩ := hrel
    by_cases hkl : k < n
    · have hko : k < os.length := by omega
      have hco := hO.cell hko
      have hfo := hO.frozen k
      have HXr := hide (HX.out.below (hBl.mono hB))
      have HYr := hide (HY.out.below (hBl.mono hB))
      replace hO := hide hO
      replace hBl := hide hBl
      have h1 := HX.out.limbs k
      have h2 := HY.out.limbs k
      have hst := hide (sub_step HX.out.limbs HY.out.limbs hq hko hval)
      clear hval
      by_cases hbo : lm xs k < lm ys k + q
      · have hB1 : Hid (subB (lm xs k) (lm ys k) q = 1) := hide (by unfold subB; rw [if_pos hbo])
        go_wp2_with (first
          | (go_at_call 134; ((with_reducible refine (limb_any _ Bd A n c xs HXr.out k (by omega)).mono ?_); rintro e w' ⟨rfl, rfl⟩))
          | (go_at_call 134; ((with_reducible refine (limb_any _ Bd A' n' c' ys HYr.out k (by omega)).mono ?_); rintro e w' ⟨rfl, rfl⟩)))
        go_roundw
        case rel => exact ⟨k + 1, 1, by omega, by omega, by go_num, by go_num, _, by simpa using hos, by have := hst.out; rwa [hB1.out] at this, hO.out.put (subD_lt _ _ _) (by unfold subD; omega), hBl.out.setCell (Nat.le_refl _) _⟩
        case measure => simp [intOf]; omega
      · have hB1 : Hid (subB (lm xs k) (lm ys k) q = 0) := hide (by unfold subB; rw [if_neg hbo])
        go_wp2_with (first
          | (go_at_call 134; ((with_reducible refine (limb_any _ Bd A n c xs HXr.out k (by omega)).mono ?_); rintro e w' ⟨rfl, rfl⟩))
          | (go_at_call 134; ((with_reducible refine (limb_any _ Bd A' n' c' ys HYr.out k (by omega)).mono ?_); rintro e w' ⟨rfl, rfl⟩)))
        go_roundw
        case rel => exact ⟨k + 1, 0, by omega, by omega, by go_num, by go_num, _, by simpa using hos, by have := hst.out; rwa [hB1.out] at this, hO.out.put (subD_lt _ _ _) (by unfold subD; omega), hBl.out.setCell (Nat.le_refl _) _⟩
        case measure => simp [intOf]; omega
    · have hkm : k = n := by omega
      subst hkm
      have hR := hO.rd0 (c := k) (by omega) (by omega) hO.lt
      rw [hos] at hR
      have hv : Hid (val os = val xs - val ys) := hide (rsub_end hos HX.out.len hO.limbs HX.out.limbs hq hle.out hval)
      clear hval
      replace hR := hide hR
      replace hO := hide hO
      replace hBl := hide hBl
      go_wp2_with fail
      refine (rnorm_any _ _ _ _ _ _ hR.out (Nat.le_refl _)).mono ?_
      rw [hv.out]
      rintro e w2 ⟨rfl, hO2, hb2, hlm⟩
      replace hO2 := hide hO2
      replace hb2 := hide hb2
      go_wp2
      go_ret2
      exact ⟨_, hBl.out.size, rfl, hO2.out, hBl.out.trans (hb2.out.mono hBl.out.size), hlm⟩

set_option maxHeartbeats 2000000 in
theorem rdiv_zero (w : World) (Bd : Nat) (A A' : Option Addr) (n c n' c' : Nat) (xs ys : List Nat) (hx : Rd w Bd A n c xs) (hy : Rd w Bd A' n' c' ys) (hB : Bd ≤ w.heap.size) (h0 : val ys = 0) :
    Calls Try.prog 127 #[.slice A n c, .slice A' n' c'] w (fun e w' => e = .returned (.tuple #[.slice none 0 0, .slice none 0 0, .bool false]) ∧ Below w.heap.size w w') := by
  have H := hide hx
  have H' := hide hy
  have hnx := fun (W : World) (hR : Rd W Bd A n c xs) (hb : Bd ≤ W.heap.size) => rnorm_any W Bd A n c xs hR hb
  have hny := fun (W : World) (hR : Rd W Bd A' n' c' ys) (hb : Bd ≤ W.heap.size) => rnorm_any W Bd A' n' c' ys hR hb
  have hxl : (dig (val xs)).length ≤ n := by rw [← hx.len]; exact dig_len_val hx.limbs
  clear hx hy
  generalize val xs = x at *
  generalize val ys = y at *
  obtain ⟨La, hLa⟩ : ∃ La, La = (dig x).length := ⟨_, rfl⟩
  obtain ⟨Lb, hLb⟩ : ∃ Lb, Lb = (dig y).length := ⟨_, rfl⟩
  obtain rfl : Lb = 0 := by rw [hLb, h0, dig_zero]; rfl
  rw [← hLa] at hxl
  replace hnx := hide hnx
  replace hny := hide hny
  replace hLa := hide hLa
  replace hLb := hide hLb
  go_enter Try.func127, Try.ntmps127
  go_wp2_with fail
  refine (hnx.out w H.out hB).mono ?_
  rintro e w1 ⟨rfl, hO1, hb1, hl1⟩
  rw [← hLa.out] at hl1 ⊢
  replace hO1 := hide hO1
  replace hb1 := hide hb1
  go_wp2_with fail
  refine (hny.out w1 (H'.out.below (hb1.out.mono hB)) (Nat.le_trans hB hb1.out.size)).mono ?_
  rintro e w2 ⟨rfl, hO2, hb2, hl2⟩
  rw [← hLb.out] at hl2 ⊢
  have hlt1 : w.heap.size < w1.heap.size := hO1.out.lt
  replace hO1 := hide (hO1.out.below hb2 hO1.out.lt)
  have hb := hide (hb1.out.trans (hb2.mono hb1.out.size))
  replace hO2 := hide hO2
  clear hb1 hb2 hnx hny H H'
  generalize w1.heap.size = gb at *
  go_wp2
  go_ret3
  exact ⟨rfl, hb.out⟩

set_option maxHeartbeats 2000000 in
theorem rdiv_one (w : World) (Bd : Nat) (A A' : Option Addr) (n c n' c' : Nat) (xs ys : List Nat) (hx : Rd w Bd A n c xs) (hy : Rd w Bd A' n' c' ys) (hB : Bd ≤ w.heap.size) (h1 : (dig (val ys)).length = 1) :
    Calls Try.prog 127 #[.slice A n c, .slice A' n' c'] w (RetDM w (val xs) (val ys)) := by
  have H := hide hx
  have H' := hide hy
  have hnx := fun (W : World) (hR : Rd W Bd A n c xs) (hb : Bd ≤ W.heap.size) => rnorm_any W Bd A n c xs hR hb
  have hny := fun (W : World) (hR : Rd W Bd A' n' c' ys) (hb : Bd ≤ W.heap.size) => rnorm_any W Bd A' n' c' ys hR hb
  have hxl : (dig (val xs)).length ≤ n := by rw [← hx.len]; exact dig_len_val hx.limbs
  clear hx hy
  generalize val xs = x at *
  generalize val ys = y at *
  obtain ⟨La, hLa⟩ : ∃ La, La = (dig x).length := ⟨_, rfl⟩
  obtain ⟨Lb, hLb⟩ : ∃ Lb, Lb = (dig y).length := ⟨_, rfl⟩
  have hy32 : y < 4294967296 := by
    have := (dig_len_le y 1).1 (by omega)
    simp only [pw] at this
    omega
  have hy0 : Hid (lm (dig y) 0 = y) := hide (by
    rw [dig_pos (by rintro rfl; rw [dig_zero] at h1; cases h1)]
    simp [lm]
    omega)
  have hyp : 0 < y := by
    rcases Nat.eq_zero_or_pos y with h | h
    · subst h; rw [dig_zero] at h1; cases h1
    · exact h
  obtain rfl : Lb = 1 := by omega
  rw [← hLa] at hxl
  replace hnx := hide hnx
  replace hny := hide hny
  replace hLa := hide hLa
  replace hLb := hide hLb
  go_enter Try.func127, Try.ntmps127
  go_wp2_with fail
  refine (hnx.out w H.out hB).mono ?_
  rintro e w1 ⟨rfl, hO1, hb1, hl1⟩
  rw [← hLa.out] at hl1 ⊢
  replace hO1 := hide hO1
  replace hb1 := hide hb1
  go_wp2_with fail
  refine (hny.out w1 (H'.out.below (hb1.out.mono hB)) (Nat.le_trans hB hb1.out.size)).mono ?_
  rintro e w2 ⟨rfl, hO2, hb2, hl2⟩
  rw [← hLb.out] at hl2 ⊢
  have hlt1 : w.heap.size < w1.heap.size := hO1.out.lt
  replace hO1 := hide (hO1.out.below hb2 hO1.out.lt)
  have hb := hide (hb1.out.trans (hb2.mono hb1.out.size))
  replace hO2 := hide hO2
  clear hb1 hb2 hnx hny H H'
  generalize w1.heap.size = gb at *
  have hc0 := hO2.out.cell (j := 0) (by rw [← hLb.out]; omega)
  rw [hy0.out] at hc0
  have hR := hO1.out.rd0 (c := La) (by rw [← hLa.out]; exact Nat.le_refl _) (by omega) (B := w2.heap.size) hO1.out.lt
  rw [← hLa.out] at hR
  have hsh := rshort_any w2 w2.heap.size (some ⟨w.heap.size, 0, none⟩) La La (dig x) y hR (Nat.le_refl _) hyp hy32
  rw [val_dig] at hsh
  have hrl : x % y < 4294967296 := Nat.lt_trans (Nat.mod_lt _ hyp) hy32
  obtain ⟨r, hr⟩ : ∃ r, r = x % y := ⟨_, rfl⟩
  rw [← hr] at hsh hrl
  replace hr := hide hr
  replace hsh := hide hsh
  clear hR
  go_wp2_with fail
  refine hsh.out.mono ?_
  rintro e w3 ⟨g3, hg3, rfl, hO3, hb3⟩
  have hQ := hO3.rd0 (c := (dig (x / y)).length) (Nat.le_refl _) (by have := dig_len_mono (Nat.div_le_self x y); rw [← hLa.out] at this; omega) (B := w3.heap.size) hO3.lt
  have hbb := hide (hb.out.trans (hb3.mono hb.out.size))
  replace hQ := hide hQ
  clear hO3 hb3 hc0 hsh hO1 hO2 hb
  go_wp2_with fail
  refine (rof_any w3 r (by omega)).mono ?_
  rintro e w4 ⟨A4, c4, rfl, hR4, hb4⟩
  have hQ4 := hide ((hQ.out.below hb4).more hb4.size)
  replace hR4 := hide hR4
  replace hb4 := hide hb4
  go_wp2
  go_ret3
  rw [hr.out] at hR4 ⊢
  exact ⟨_, _, _, _, rfl, hQ4.out, hR4.out, hbb.out.trans (hb4.out.mono hbb.out.size)⟩
end

section
open Go.RowKit

theorem limb_mod {os : List Nat} {sh r : Nat} (hsh : sh < os.length) (hL : Limbs os) (hr : r < 32) (h : val os % (pw sh * 2 ^ (r + 1)) = 0) : lm os sh % 2 ^ (r + 1) = 0 := by
  have e := val_split os (k := sh) (by omega)
  have h1 := vl_lt hL sh
  have hp := pw_pos sh
  have h2 : val os % pw sh = 0 := by
    have := Nat.mod_mod_of_dvd (val os) (Nat.dvd_mul_right (pw sh) (2 ^ (r + 1)))
    rw [h] at this
    simpa using this.symm
  have h3 : vl os sh = 0 := by
    rw [e, Nat.add_mul_mod_self_left, Nat.mod_eq_of_lt h1] at h2
    exact h2
  rw [e, h3, Nat.zero_add, Nat.mul_mod_mul_left] at h
  have h4 : val (os.drop sh) % 2 ^ (r + 1) = 0 := by
    rcases Nat.mul_eq_zero.1 h with h5 | h5
    · omega
    · exact h5
  have e2 : (4294967296 : Nat) = 2 ^ (r + 1) * 2 ^ (31 - r) := by rw [← Nat.pow_add, show r + 1 + (31 - r) = 32 by omega]
  rw [val_drop hsh, e2, Nat.mul_assoc, Nat.add_mul_mod_self_left] at h4
  exact h4
theorem vl_set_add {os : List Nat} {k c : Nat} (hk : k < os.length) (m : Nat) (h : k < m) : vl (os.set k (lm os k + c)) m = vl os m + pw k * c := by
  induction m with
  | zero => omega
  | succ m ih =>
    by_cases hm : k = m
    · subst hm
      rw [vl_succ, vl_set _ (Nat.le_refl _), lm_set_eq _ hk, vl_succ, Nat.mul_add]
      omega
    · rw [vl_succ, lm_set_ne _ hm, ih (by omega), vl_succ]
      omega
theorem val_set_add {os : List Nat} {k c : Nat} (hk : k < os.length) : val (os.set k (lm os k + c)) = val os + pw k * c := by
  unfold val
  rw [List.length_set]
  exact vl_set_add hk _ hk
theorem or_bit {t r : Nat} (hr : r < 32) (ht : t < 4294967296) (h : t % 2 ^ (r + 1) = 0) : bits BinOp.or IntKind.u32 (t : Int) ((2 : Int) ^ r % 4294967296) = ((t + 2 ^ r : Nat) : Int) ∧ t + 2 ^ r < 4294967296 := by
  have h1 : (2 : Nat) ^ r < 2 ^ 32 := Nat.pow_lt_pow_right (by omega) hr
  have h2 : (2 : Nat) ^ r < 2 ^ (r + 1) := Nat.pow_lt_pow_right (by omega) (by omega)
  have e : ((2 : Int) ^ r % 4294967296) = ((2 ^ r : Nat) : Int) := by
    rw [show ((2 : Int) ^ r) = ((2 ^ r : Nat) : Int) by simp]
    omega
  have h3 : t ||| 2 ^ r = t + 2 ^ r := nat_join (r + 1) t (2 ^ r) h h2
  rw [e, u32_or_nat _ _ ht (by omega), h3]
  refine ⟨rfl, ?_⟩
  rw [← h3]
  exact Nat.or_lt_two_pow (n := 32) (by omega) (by omega)

set_option maxHeartbeats 2000000 in
theorem rdiv_less (w : World) (Bd : Nat) (A A' : Option Addr) (n c n' c' : Nat) (xs ys : List Nat) (hx : Rd w Bd A n c xs) (hy : Rd w Bd A' n' c' ys) (hB : Bd ≤ w.heap.size) (h2 : 2 ≤ (dig (val ys)).length) (hlt : bl (val xs) < bl (val ys)) :
    Calls Try.prog 127 #[.slice A n c, .slice A' n' c'] w (RetDM w (val xs) (val ys)) := by
  have H := hide hx
  have H' := hide hy
  have hnx := fun (W : World) (hR : Rd W Bd A n c xs) (hb : Bd ≤ W.heap.size) => rnorm_any W Bd A n c xs hR hb
  have hny := fun (W : World) (hR : Rd W Bd A' n' c' ys) (hb : Bd ≤ W.heap.size) => rnorm_any W Bd A' n' c' ys hR hb
  have hxl : (dig (val xs)).length ≤ n := by rw [← hx.len]; exact dig_len_val hx.limbs
  have hyl : (dig (val ys)).length ≤ 70368744177664 := by
    have h3 := dig_len_val hy.limbs
    rw [hy.len] at h3
    have := hy.big
    omega
  clear hx hy
  generalize val xs = x at *
  generalize val ys = y at *
  obtain ⟨La, hLa⟩ : ∃ La, La = (dig x).length := ⟨_, rfl⟩
  obtain ⟨Lb, hLb⟩ : ∃ Lb, Lb = (dig y).length := ⟨_, rfl⟩
  rw [← hLb] at h2
  have hyne : y ≠ 0 := by rintro rfl; rw [hLb, dig_zero] at h2; simp at h2
  obtain ⟨bx, hbx⟩ : ∃ bx, bx = bl x := ⟨_, rfl⟩
  obtain ⟨by', hby⟩ : ∃ by', by' = bl y := ⟨_, rfl⟩
  have hxb : x < 2 ^ bx := (bl_le bx x).1 (by omega)
  have hyb : 2 ^ (by' - 1) ≤ y := by
    have h3 := bl_ne hyne
    rcases Nat.lt_or_ge y (2 ^ (by' - 1)) with h4 | h4
    · have := (bl_le (by' - 1) y).2 h4; omega
    · exact h4
  have hby1 : 32 * (Lb - 1) + 1 ≤ by' := by
    rcases Nat.lt_or_ge by' (32 * (Lb - 1) + 1) with h3 | h3
    · have h4 := (bl_le (32 * (Lb - 1)) y).1 (by omega)
      have h5 := pw_pow (Lb - 1) 0
      rw [Nat.add_zero, Nat.pow_zero, Nat.mul_one] at h5
      have := (dig_len_le y (Lb - 1)).2 (by omega)
      omega
    · exact h3
  have hbx1 : bx ≤ 32 * La := by
    have h5 := pw_pow La 0
    rw [Nat.add_zero, Nat.pow_zero, Nat.mul_one] at h5
    have h4 := (dig_len_le x La).1 (by omega)
    have := (bl_le (32 * La) x).2 (by omega)
    omega
  have hxy : x < y := by
    have : 2 ^ bx ≤ 2 ^ (by' - 1) := Nat.pow_le_pow_right (by omega) (by omega)
    omega
  have hdm : Hid (x / y = 0 ∧ x % y = x) := hide ⟨Nat.div_eq_of_lt hxy, Nat.mod_eq_of_lt hxy⟩
  have hlt2 : bx < by' := by omega
  have hbyb : by' ≤ 32 * Lb := by
    have h5 := pw_pow Lb 0
    rw [Nat.add_zero, Nat.pow_zero, Nat.mul_one] at h5
    have h4 := (dig_len_le y Lb).1 (by omega)
    have := (bl_le (32 * Lb) y).2 (by omega)
    omega
  clear hlt hxb hyb hxy
  replace hbx := hide hbx
  replace hby := hide hby
  rw [← hLa] at hxl
  rw [← hLb] at hyl
  replace hnx := hide hnx
  replace hny := hide hny
  replace hLa := hide hLa
  replace hLb := hide hLb
  go_enter Try.func127, Try.ntmps127
  go_wp2_with fail
  refine (hnx.out w H.out hB).mono ?_
  rintro e w1 ⟨rfl, hO1, hb1, hl1⟩
  rw [← hLa.out] at hl1 ⊢
  replace hO1 := hide hO1
  replace hb1 := hide hb1
  go_wp2_with fail
  refine (hny.out w1 (H'.out.below (hb1.out.mono hB)) (Nat.le_trans hB hb1.out.size)).mono ?_
  rintro e w2 ⟨rfl, hO2, hb2, hl2⟩
  rw [← hLb.out] at hl2 ⊢
  have hlt1 : w.heap.size < w1.heap.size := hO1.out.lt
  replace hO1 := hide (hO1.out.below hb2 hO1.out.lt)
  have hb := hide (hb1.out.trans (hb2.mono hb1.out.size))
  replace hO2 := hide hO2
  clear hb1 hb2 hnx hny H H'
  generalize w1.heap.size = gb at *
  have hRa := hO1.out.rd0 (c := La) (by rw [← hLa.out]; exact Nat.le_refl _) (by omega) (B := w2.heap.size) hO1.out.lt
  have hRb := hO2.out.rd0 (c := Lb) (by rw [← hLb.out]; exact Nat.le_refl _) (by omega) (B := w2.heap.size) hO2.out.lt
  rw [← hLa.out] at hRa
  rw [← hLb.out] at hRb
  have hbits1 := rbits_any w2 w2.heap.size (some ⟨w.heap.size, 0, none⟩) La La (dig x) hRa (Nat.le_refl _)
  rw [val_dig, ← hbx.out] at hbits1
  have hbits2 := fun (W : World) (hR : Rd W W.heap.size (some ⟨gb, 0, none⟩) Lb Lb (dig y)) => rbits_any W W.heap.size (some ⟨gb, 0, none⟩) Lb Lb (dig y) hR (Nat.le_refl _)
  rw [val_dig, ← hby.out] at hbits2
  replace hRb := hide hRb
  replace hbits1 := hide hbits1
  replace hbits2 := hide hbits2
  clear hRa
  go_wp2_with fail
  refine hbits1.out.mono ?_
  rintro e' w3 ⟨rfl, hb3⟩
  have hRb3 := hide ((hRb.out.below hb3).more hb3.size)
  have hs3 := hb3.size
  have hgb3 : gb < w2.heap.size := hO2.out.lt
  have hga3 : w.heap.size < w2.heap.size := hO1.out.lt
  have hO13 := hide (hO1.out.below hb3 hO1.out.lt)
  have hO23 := hide (hO2.out.below hb3 hO2.out.lt)
  have hbb3 := hide (hb.out.trans (hb3.mono hb.out.size))
  clear hb3 hbits1 hRb hO1 hO2 hb
  go_wp2_with fail
  refine (hbits2.out w3 hRb3.out).mono ?_
  rintro e' w4 ⟨rfl, hb4⟩
  have hs4 := hb4.size
  have hO14 := hide (hO13.out.below hb4 (by omega))
  have hO24 := hide (hO23.out.below hb4 (by omega))
  have hbb4 := hide (hbb3.out.trans (hb4.mono hbb3.out.size))
  clear hb4 hbits2 hRb3 hO13 hO23 hbb3
  have hR := hO14.out.rd0 (c := La) (by rw [← hLa.out]; exact Nat.le_refl _) (by omega) (B := w4.heap.size) hO14.out.lt
  rw [← hLa.out] at hR
  replace hR := hide hR
  go_wp2
  go_ret3
  rw [RetDM, hdm.out.1, hdm.out.2, dig_zero, ← hLa.out]
  exact ⟨none, 0, _, _, rfl, Rd.empty _ _ _ (by omega), hR.out, hbb4.out⟩
set_option maxHeartbeats 2000000 in
theorem rdiv_long (w : World) (Bd : Nat) (A A' : Option Addr) (n c n' c' : Nat) (xs ys : List Nat) (hx : Rd w Bd A n c xs) (hy : Rd w Bd A' n' c' ys) (hB : Bd ≤ w.heap.size) (h2 : 2 ≤ (dig (val ys)).length) (hle : bl (val ys) ≤ bl (val xs)) (hn : n ≤ 35184372088000) :
    Calls Try.prog 127 #[.slice A n c, .slice A' n' c'] w (RetDM w (val xs) (val ys)) := by
  have H := hide hx
  have H' := hide hy
  have hnx := fun (W : World) (hR : Rd W Bd A n c xs) (hb : Bd ≤ W.heap.size) => rnorm_any W Bd A n c xs hR hb
  have hny := fun (W : World) (hR : Rd W Bd A' n' c' ys) (hb : Bd ≤ W.heap.size) => rnorm_any W Bd A' n' c' ys hR hb
  have hxl : (dig (val xs)).length ≤ n := by rw [← hx.len]; exact dig_len_val hx.limbs
  have hyl : (dig (val ys)).length ≤ 70368744177664 := by
    have h3 := dig_len_val hy.limbs
    rw [hy.len] at h3
    have := hy.big
    omega
  clear hx hy
  generalize val xs = x at *
  generalize val ys = y at *
  obtain ⟨La, hLa⟩ : ∃ La, La = (dig x).length := ⟨_, rfl⟩
  obtain ⟨Lb, hLb⟩ : ∃ Lb, Lb = (dig y).length := ⟨_, rfl⟩
  rw [← hLb] at h2
  have hyne : y ≠ 0 := by rintro rfl; rw [hLb, dig_zero] at h2; simp at h2
  obtain ⟨bx, hbx⟩ : ∃ bx, bx = bl x := ⟨_, rfl⟩
  obtain ⟨by', hby⟩ : ∃ by', by' = bl y := ⟨_, rfl⟩
  have hxb : x < 2 ^ bx := (bl_le bx x).1 (by omega)
  have hyb : 2 ^ (by' - 1) ≤ y := by
    have h3 := bl_ne hyne
    rcases Nat.lt_or_ge y (2 ^ (by' - 1)) with h4 | h4
    · have := (bl_le (by' - 1) y).2 h4; omega
    · exact h4
  have hby1 : 32 * (Lb - 1) + 1 ≤ by' := by
    rcases Nat.lt_or_ge by' (32 * (Lb - 1) + 1) with h3 | h3
    · have h4 := (bl_le (32 * (Lb - 1)) y).1 (by omega)
      have h5 := pw_pow (Lb - 1) 0
      rw [Nat.add_zero, Nat.pow_zero, Nat.mul_one] at h5
      have := (dig_len_le y (Lb - 1)).2 (by omega)
      omega
    · exact h3
  have hbx1 : bx ≤ 32 * La := by
    have h5 := pw_pow La 0
    rw [Nat.add_zero, Nat.pow_zero, Nat.mul_one] at h5
    have h4 := (dig_len_le x La).1 (by omega)
    have := (bl_le (32 * La) x).2 (by omega)
    omega
  obtain ⟨e, he⟩ : ∃ e, bx = by' + e := ⟨bx - by', by omega⟩
  have hE : (bx : Int) - (by' : Int) = (e : Int) := by omega
  have hxy : Hid (x < y * 2 ^ (e + 1)) := hide (by
    have h3 : 2 ^ bx = 2 ^ (by' - 1) * 2 ^ (e + 1) := by rw [← Nat.pow_add]; congr 1; omega
    have h4 := Nat.mul_le_mul_right (2 ^ (e + 1)) hyb
    omega)
  have hLe : Lb + e / 32 + 1 ≤ 70368744177664 := by omega
  have heb : e ≤ 1125899906842624 := by omega
  have hbxb : bx ≤ 1125899906842624 := by omega
  have hbyb : by' ≤ 1125899906842624 := by omega
  clear hle hxb hyb hby1 hbx1 he
  replace hbx := hide hbx
  replace hby := hide hby
  rw [← hLa] at hxl
  rw [← hLb] at hyl
  replace hnx := hide hnx
  replace hny := hide hny
  replace hLa := hide hLa
  replace hLb := hide hLb
  go_enter Try.func127, Try.ntmps127
  go_wp2_with fail
  refine (hnx.out w H.out hB).mono ?_
  rintro e w1 ⟨rfl, hO1, hb1, hl1⟩
  rw [← hLa.out] at hl1 ⊢
  replace hO1 := hide hO1
  replace hb1 := hide hb1
  go_wp2_with fail
  refine (hny.out w1 (H'.out.below (hb1.out.mono hB)) (Nat.le_trans hB hb1.out.size)).mono ?_
  rintro e w2 ⟨rfl, hO2, hb2, hl2⟩
  rw [← hLb.out] at hl2 ⊢
  have hlt1 : w.heap.size < w1.heap.size := hO1.out.lt
  replace hO1 := hide (hO1.out.below hb2 hO1.out.lt)
  have hb := hide (hb1.out.trans (hb2.mono hb1.out.size))
  replace hO2 := hide hO2
  clear hb1 hb2 hnx hny H H'
  generalize w1.heap.size = gb at *
  have hRa := hO1.out.rd0 (c := La) (by rw [← hLa.out]; exact Nat.le_refl _) (by omega) (B := w2.heap.size) hO1.out.lt
  have hRb := hO2.out.rd0 (c := Lb) (by rw [← hLb.out]; exact Nat.le_refl _) (by omega) (B := w2.heap.size) hO2.out.lt
  rw [← hLa.out] at hRa
  rw [← hLb.out] at hRb
  have hbits1 := rbits_any w2 w2.heap.size (some ⟨w.heap.size, 0, none⟩) La La (dig x) hRa (Nat.le_refl _)
  rw [val_dig, ← hbx.out] at hbits1
  have hbits2 := fun (W : World) (hR : Rd W W.heap.size (some ⟨gb, 0, none⟩) Lb Lb (dig y)) => rbits_any W W.heap.size (some ⟨gb, 0, none⟩) Lb Lb (dig y) hR (Nat.le_refl _)
  rw [val_dig, ← hby.out] at hbits2
  replace hRb := hide hRb
  replace hbits1 := hide hbits1
  replace hbits2 := hide hbits2
  clear hRa
  go_wp2_with fail
  refine hbits1.out.mono ?_
  rintro e' w3 ⟨rfl, hb3⟩
  have hRb3 := hide ((hRb.out.below hb3).more hb3.size)
  have hs3 := hb3.size
  have hgb3 : gb < w2.heap.size := hO2.out.lt
  have hga3 : w.heap.size < w2.heap.size := hO1.out.lt
  have hO13 := hide (hO1.out.below hb3 hO1.out.lt)
  have hO23 := hide (hO2.out.below hb3 hO2.out.lt)
  have hbb3 := hide (hb.out.trans (hb3.mono hb.out.size))
  clear hb3 hbits1 hRb hO1 hO2 hb
  go_wp2_with fail
  refine (hbits2.out w3 hRb3.out).mono ?_
  rintro e' w4 ⟨rfl, hb4⟩
  have hs4 := hb4.size
  have hO14 := hide (hO13.out.below hb4 (by omega))
  have hO24 := hide (hO23.out.below hb4 (by omega))
  have hbb4 := hide (hbb3.out.trans (hb4.mono hbb3.out.size))
  clear hb4 hbits2 hRb3 hO13 hO23 hbb3
  go_wp2_with (at_make; refine wpList_make_nat _ rfl _ _ rfl _ _ _ _ (e / 32 + 1) rfl rfl (by omega) (by omega) (by omega) ?_; intro w5 hown hb5 hg5)
  have hs5 := hb5.size
  have hO15 := hide (hO14.out.below hb5 (by omega))
  have hRb5 := hide ((hO24.out.rd0 (c := Lb) (by rw [← hLb.out]; exact Nat.le_refl _) (by omega) (B := w4.heap.size) (by omega)))
  replace hRb5 := hide ((hRb5.out.below hb5).more hs5)
  rw [← hLb.out] at hRb5
  have hbb5 := hide (hbb4.out.trans (hb5.mono hbb4.out.size))
  have hgq : gb < w4.heap.size := by omega
  have hgq2 : w.heap.size ≤ w4.heap.size := by omega
  have hgq3 : w4.heap.size < w5.heap.size := hg5
  replace hown := hide hown
  clear hO14 hO24 hbb4 hb5
  generalize w4.heap.size = gq at *
  refine (rshift_any w5 w5.heap.size _ Lb Lb (dig y) hRb5.out (Nat.le_refl _) e hLe).mono ?_
  rw [val_dig]
  rintro e' w6 ⟨gd, hgd, rfl, hO6, hb6, hl6⟩
  have hO16 := hide (hO15.out.below hb6 (by omega))
  have hQ6 := hide (hown.out.below hb6 (by omega))
  have hbb6 := hide (hbb5.out.trans (hb6.mono hbb5.out.size))
  have hs6 := hb6.size
  replace hO6 := hide hO6
  have hD0 : Hid (y * 2 ^ (e + 1) / 2 = y * 2 ^ e) := hide (by rw [Nat.pow_succ, ← Nat.mul_assoc]; omega)
  obtain ⟨Ld0, hLd0⟩ : ∃ Ld0, Ld0 = (dig (y * 2 ^ e)).length := ⟨_, rfl⟩
  rw [← hLd0] at hl6 ⊢
  have hLd0' := hide hLd0
  clear hb6 hLd0 hRb5 hO15 hown hbb5
  go_wp2
  go_loopw [0, 11, 12] (fun a d i wr => ∃ (k R ga gd La Ld : Nat) (os : List Nat), k ≤ e + 1 ∧ i = .int .i64 ((k : Int) - 1) ∧ a = .slice (some ⟨ga, 0, none⟩) La La ∧ d = .slice (some ⟨gd, 0, none⟩) Ld Ld ∧ Hid (La = (dig R).length) ∧ Hid (Ld = (dig (y * 2 ^ k / 2)).length) ∧ ga ≠ gq ∧ gd ≠ gq ∧ gq < wr.heap.size ∧ La ≤ 70368744177664 ∧ Ld ≤ 70368744177664 ∧ Hid (os.length = e / 32 + 1) ∧ Hid (x = R + y * val os) ∧ Hid (R < y * 2 ^ k) ∧ Hid (val os % 2 ^ k = 0) ∧ Hid (Own wr ga (dig R)) ∧ Hid (Own wr gd (dig (y * 2 ^ k / 2))) ∧ Hid (Own wr gq os) ∧ Hid (Below w.heap.size w wr)) (fun _ _ i _ => (intOf i + 1).toNat)
  case atStart =>
    refine ⟨e + 1, x, w.heap.size, gd, La, Ld0, List.replicate (e / 32 + 1) 0, by omega, by go_num, rfl, rfl, hLa, hide (by rw [hD0.out]; exact hLd0'.out), by omega, by omega, by omega, by omega, hl6, hide List.length_replicate, hide ?_, hxy, hide ?_, hO16, hide (by rw [hD0.out]; exact hO6.out), hQ6, hbb6⟩
    · rw [show val (List.replicate (e / 32 + 1) 0) = 0 from vl_zeros _ _]; simp
    · rw [show val (List.replicate (e / 32 + 1) 0) = 0 from vl_zeros _ _]; simp
  case round =>
    obtain ⟨k, R, ga, gd, La, Ld, os, hk, rfl, rfl, rfl, hLa, hLd, hga, hgd, hgqw, hla, hld, hos, hxv, hR, hmod, hOa, hOd, hOq, hBl⟩ := hrel
    rcases Nat.eq_zero_or_pos k with hk0 | hk0
    · subst hk0
      have hq : Hid (x / y = val os ∧ x % y = R) := hide (by
        have h3 := hR.out
        rw [Nat.pow_zero, Nat.mul_one] at h3
        rw [hxv.out, Nat.add_mul_div_left _ _ (by omega), Nat.div_eq_of_lt h3, Nat.add_mul_mod_self_left, Nat.mod_eq_of_lt h3]
        exact ⟨Nat.zero_add _, rfl⟩)
      have hRq := hOq.out.rd0 (c := e / 32 + 1) (by rw [hos.out]; exact Nat.le_refl _) (by omega) (B := wr.heap.size) hgqw
      rw [hos.out] at hRq
      replace hRq := hide hRq
      have hgaw := hOa.out.lt
      go_wp2_with fail
      refine (rnorm_any _ _ _ _ _ _ hRq.out (Nat.le_refl _)).mono ?_
      rintro e' w7 ⟨rfl, hO7, hb7, hl7⟩
      have hRa7 := hide ((hOa.out.below hb7 hgaw).rd0 (c := La) (by rw [← hLa.out]; exact Nat.le_refl _) hla (B := w7.heap.size) (by have := hb7.size; omega))
      have hQ7 := hide (hO7.rd0 (c := (dig (val os)).length) (Nat.le_refl _) hl7 (B := w7.heap.size) hO7.lt)
      have hbb7 := hide (hBl.out.trans (hb7.mono hBl.out.size))
      clear hO7 hb7 hl7
      go_wp2
      go_ret3
      rw [RetDM, hq.out.1, hq.out.2]
      have hLa' := hLa.out
      subst hLa'
      exact ⟨_, _, _, _, rfl, hQ7.out, hRa7.out, hbb7.out⟩
    · obtain ⟨j, rfl⟩ : ∃ j, k = j + 1 := ⟨k - 1, by omega⟩
      have hj1 : ((j + 1 : Nat) : Int) - 1 = (j : Int) := by omega
      rw [hj1]
      have hD : y * 2 ^ (j + 1) / 2 = y * 2 ^ j := by rw [Nat.pow_succ, ← Nat.mul_assoc]; omega
      rw [hD] at hLd hOd
      obtain ⟨D, hDD⟩ : ∃ D, D = y * 2 ^ j := ⟨_, rfl⟩
      rw [← hDD] at hLd hOd
      have hR2 : Hid (R < 2 * D) := hide (by have := hR.out; rw [Nat.pow_succ, ← Nat.mul_assoc, ← hDD] at this; omega)
      replace hDD := hide hDD
      clear hj1 hD hR
      have hRa := hOa.out.rd0 (c := La) (by rw [← hLa.out]; exact Nat.le_refl _) hla (B := wr.heap.size) hOa.out.lt
      have hRd := hOd.out.rd0 (c := Ld) (by rw [← hLd.out]; exact Nat.le_refl _) hld (B := wr.heap.size) hOd.out.lt
      rw [← hLa.out] at hRa
      rw [← hLd.out] at hRd
      have hgaw := hOa.out.lt
      have hgdw := hOd.out.lt
      obtain ⟨zc, hzc⟩ : ∃ zc, zc = cmpN R D := ⟨_, rfl⟩
      have hcm := rcmp_any wr wr.heap.size (some ⟨ga, 0, none⟩) (some ⟨gd, 0, none⟩) La La Ld Ld _ _ hRa hRd
      rw [val_dig, val_dig, ← hzc] at hcm
      have hhf := fun (W : World) (hW : Own W gd (dig D)) => rhalf_any W W.heap.size (some ⟨gd, 0, none⟩) Ld Ld (dig D) (by have h3 := hW.rd0 (c := Ld) (by rw [← hLd.out]; exact Nat.le_refl _) hld (B := W.heap.size) hW.lt; rw [← hLd.out] at h3; exact h3) (Nat.le_refl _)
      rw [val_dig] at hhf
      replace hcm := hide hcm
      replace hhf := hide hhf
      have hje : j ≤ e := by omega
      by_cases hle : D ≤ R
      · have hz0 : 0 ≤ zc := by rw [hzc]; exact cmpN_ge hle
        have hsb := rsub_fresh wr wr.heap.size (some ⟨ga, 0, none⟩) (some ⟨gd, 0, none⟩) La La Ld Ld _ _ hRa hRd (Nat.le_refl _) (by rw [val_dig, val_dig]; exact hle)
        rw [val_dig, val_dig] at hsb
        replace hsb := hide hsb
        replace hzc := hide hzc
        replace hle := hide hle
        clear hRa hRd
        go_wp2_with fail
        refine hcm.out.mono ?_
        rintro e' w' ⟨rfl, rfl⟩
        go_wp2_with fail
        refine hsb.out.mono ?_
        rintro e' w3 ⟨g3, hg3, rfl, hO3, hb3, hl3⟩
        obtain ⟨L3, hL3⟩ : ∃ L3, L3 = (dig (R - D)).length := ⟨_, rfl⟩
        rw [← hL3] at hl3 ⊢
        replace hL3 := hide hL3
        have hs3 := hb3.size
        have hOq3 := hide (hOq.out.below hb3 hgqw)
        have hOd3 := hide (hOd.out.below hb3 hgdw)
        have hB3 := hide (hBl.out.trans (hb3.mono hBl.out.size))
        replace hO3 := hide hO3
        obtain ⟨sh, hsh⟩ : ∃ sh, sh = j / 32 := ⟨_, rfl⟩
        obtain ⟨r, hr⟩ : ∃ r, r = j % 32 := ⟨_, rfl⟩
        have hd : (j : Int) / 32 = (sh : Int) := by omega
        have hm : (j : Int) % 32 = (r : Int) := by omega
        have hr32 : r < 32 := by omega
        have hshl : sh < e / 32 + 1 := by omega
        have hco := hOq3.out.cell (j := sh) (by rw [hos.out]; omega)
        have hfo := hOq3.out.frozen sh
        have hlo := hOq3.out.limbs sh
        have hshr := hide (show 32 * sh + r = j by omega)
        have hmj : val os % (pw sh * 2 ^ (r + 1)) = 0 := by rw [pw_pow, show 32 * sh + (r + 1) = j + 1 by have := hshr.out; omega]; exact hmod.out
        have hosl : sh < os.length := by rw [hos.out]; exact hshl
        obtain ⟨hor, horb⟩ := or_bit hr32 hlo (limb_mod hosl hOq3.out.limbs hr32 hmj)
        have hvs : Hid (val (os.set sh (lm os sh + 2 ^ r)) = val os + 2 ^ j) := hide (by rw [val_set_add hosl, pw_pow, hshr.out])
        replace hor := hide hor
        clear hsh hr hcm hsb hb3 hOq hOd hOa hmj
        go_wp2_with fail
        rw [hor.out]
        have hWs : (w3.setCell ⟨gq, sh, none⟩ (.int .u32 ((lm os sh + 2 ^ r : Nat) : Int))).heap.size = w3.heap.size := by simp
        have hOqW := hide (hOq3.out.put (j := sh) (x := lm os sh + 2 ^ r) horb rfl)
        have hOdW := hide (hOd3.out.block (Below.heap_setCell w3 ⟨gq, sh, none⟩ (.int .u32 ((lm os sh + 2 ^ r : Nat) : Int)) _ (by simp; omega)))
        have hO3W := hide (hO3.out.block (Below.heap_setCell w3 ⟨gq, sh, none⟩ (.int .u32 ((lm os sh + 2 ^ r : Nat) : Int)) _ (by simp; omega)))
        have hBW := hide (hB3.out.setCell (p := ⟨gq, sh, none⟩) (by simp; omega) (.int .u32 ((lm os sh + 2 ^ r : Nat) : Int)))
        clear hco hfo hOq3 hOd3 hO3 hB3
        generalize w3.setCell ⟨gq, sh, none⟩ (.int .u32 ((lm os sh + 2 ^ r : Nat) : Int)) = W at *
        refine (hhf.out W hOdW.out).mono ?_
        rintro e' w5 ⟨g5, hg5, rfl, hO5, hb5, hl5⟩
        have hs5 := hb5.size
        have hOq5 := hide (hOqW.out.below hb5 (by omega))
        have hO35 := hide (hO3W.out.below hb5 hO3W.out.lt)
        have hB5 := hide (hBW.out.trans (hb5.mono hBW.out.size))
        replace hO5 := hide hO5
        clear hb5 hhf
        go_wp2
        go_roundw
        case rel =>
          refine ⟨j, R - D, g3, g5, L3, (dig (D / 2)).length, os.set sh (lm os sh + 2 ^ r), by omega, by go_num, rfl, rfl, hL3, hide (by rw [hDD.out]), by omega, by omega, by omega, hl3, hl5, hide (by rw [List.length_set]; exact hos.out), hide ?_, hide ?_, hide ?_, hO35, hide (by rw [← hDD.out]; exact hO5.out), hOq5, hB5⟩
          · rw [hvs.out, Nat.mul_add, ← hDD.out, hxv.out]
            have := hle.out
            omega
          · rw [← hDD.out]
            have := hR2.out
            omega
          · rw [hvs.out]
            have h3 := Nat.mod_mod_of_dvd (val os) (show 2 ^ j ∣ 2 ^ (j + 1) from ⟨2, by rw [Nat.pow_succ]⟩)
            rw [hmod.out] at h3
            rw [Nat.add_mod_right]
            simpa using h3.symm
        case measure => simp [intOf]
      · have hz0 : zc = -1 := by rw [hzc]; exact cmpN_lt (by omega)
        subst hz0
        replace hle := hide hle
        clear hRa hRd hzc
        go_wp2_with fail
        refine hcm.out.mono ?_
        rintro e' w' ⟨rfl, rfl⟩
        go_wp2_with fail
        refine (hhf.out wr hOd.out).mono ?_
        rintro e' w5 ⟨g5, hg5, rfl, hO5, hb5, hl5⟩
        have hs5 := hb5.size
        have hOq5 := hide (hOq.out.below hb5 hgqw)
        have hO35 := hide (hOa.out.below hb5 hgaw)
        have hB5 := hide (hBl.out.trans (hb5.mono hBl.out.size))
        replace hO5 := hide hO5
        clear hb5 hhf
        go_wp2
        go_roundw
        case rel =>
          refine ⟨j, R, ga, g5, La, (dig (D / 2)).length, os, by omega, by go_num, rfl, rfl, hLa, hide (by rw [hDD.out]), by omega, by omega, by omega, hla, hl5, hos, hxv, hide ?_, hide ?_, hO35, hide (by rw [← hDD.out]; exact hO5.out), hOq5, hB5⟩
          · rw [← hDD.out]
            have := hle.out
            omega
          · have h3 := Nat.mod_mod_of_dvd (val os) (show 2 ^ j ∣ 2 ^ (j + 1) from ⟨2, by rw [Nat.pow_succ]⟩)
            rw [hmod.out] at h3
            simpa using h3.symm
        case measure => simp [intOf]
end

section
open Go.RowKit

theorem rdivmod_any (w : World) (Bd : Nat) (A A' : Option Addr) (n c n' c' : Nat) (xs ys : List Nat) (hx : Rd w Bd A n c xs) (hy : Rd w Bd A' n' c' ys) (hB : Bd ≤ w.heap.size) (hn : n ≤ 35184372088000) (h0 : val ys ≠ 0) :
    Calls Try.prog 127 #[.slice A n c, .slice A' n' c'] w (RetDM w (val xs) (val ys)) := by
  have hl : (dig (val ys)).length ≠ 0 := fun h => h0 (dig_len_zero.1 h)
  by_cases h1 : (dig (val ys)).length = 1
  · exact rdiv_one w Bd A A' n c n' c' xs ys hx hy hB h1
  · by_cases h2 : bl (val xs) < bl (val ys)
    · exact rdiv_less w Bd A A' n c n' c' xs ys hx hy hB (by omega) h2
    · exact rdiv_long w Bd A A' n c n' c' xs ys hx hy hB (by omega) (by omega) hn
end
end Go.Proofs.Ytdihgmbldnekhaa
