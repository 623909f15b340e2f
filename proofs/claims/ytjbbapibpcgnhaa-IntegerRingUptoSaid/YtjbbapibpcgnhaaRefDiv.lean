/-
  The reference's DivMod.
-/
import Derived.Test.YtjbbapibpcgnhaaRefShift
import Derived.Test.YtjbbapibpcgnhaaRefText
import Derived.Test.YtjbbapibpcgnhaaDivMod
namespace Go.Proofs.Ytjbbapibpcgnhaa
open Go.RowKit

def RetSubF (w : World) (m : Nat) (e : Ending) (w' : World) : Prop :=
  ∃ g, w.heap.size ≤ g ∧ e = .returned (.tuple #[.slice (some ⟨g, 0, none⟩) (dig m).length (dig m).length, .bool true]) ∧ Own w' g (dig m) ∧ Below w.heap.size w w' ∧ (dig m).length ≤ 70368744177664

set_option maxHeartbeats 1000000 in
theorem rsub_fresh (w : World) (Bd : Nat) (A A' : Option Addr) (n c n' c' : Nat) (xs ys : List Nat) (hx : Rd w Bd A n c xs) (hy : Rd w Bd A' n' c' ys) (hB : Bd ≤ w.heap.size) (hle : val ys ≤ val xs) :
    Calls Try.prog 53 #[.slice A n c, .slice A' n' c'] w (RetSubF w (val xs - val ys)) := by
  obtain ⟨z, hz⟩ : ∃ z : Int, z = cmpN (val xs) (val ys) := ⟨_, rfl⟩
  have hz0 : 0 ≤ z := by rw [hz]; exact cmpN_ge hle
  have hC := hide hz.symm
  have hle := hide hle
  clear hz
  have hbig := hx.big
  have hcap := hx.cap
  have HX := hide hx
  have HY := hide hy
  clear hx hy
  go_enter Try.func53, Try.ntmps53
  go_wp2_with (first
    | (go_at_call 49; ((with_reducible refine (rcmp_any _ Bd A A' n c n' c' xs ys HX.out HY.out).mono ?_); rw [hC.out]; rintro e w' ⟨rfl, rfl⟩))
    | (at_make; refine wpList_make_nat _ rfl _ _ rfl _ _ _ _ n rfl rfl (by omega) (by omega) (by omega) ?_; intro w1 hown hb hg))
  go_loopw [7, 8] (fun bw i wr => ∃ k q : Nat, k ≤ n ∧ q ≤ 1 ∧ i = .int .i64 k ∧ bw = .int .u64 q ∧ ∃ os, os.length = n ∧ vl os k + vl ys k = vl xs k + pw k * q ∧ Own wr w.heap.size os ∧ Below w.heap.size w wr) (fun _ i _ => n - (intOf i).toNat)
  case atStart => exact ⟨0, 0, by omega, by omega, rfl, rfl, List.replicate n 0, List.length_replicate, rfl, hown, hb⟩
  case round =>
    obtain ⟨k, q, hk, hq, rfl, rfl, os, hos, hval, hO, hBl⟩ := hrel
    by_cases hkl : k < n
    · have hko : k < os.length := by omega
      have hco := hO.cell hko
      have hfo := hO.frozen k
      have HXr := hide (HX.out.below (hBl.mono hB))
      have HYr := hide (HY.out.below (hBl.mono hB))
      replace hO := hide hO
      replace hBl := hide hBl
      have h1 := HX.out.limbs k
      have h2 := HY.out.limbs k
      have hst := hide (sub_step HX.out.limbs HY.out.limbs hq hko hval)
      clear hval
      by_cases hbo : lm xs k < lm ys k + q
      · have hB1 : Hid (subB (lm xs k) (lm ys k) q = 1) := hide (by unfold subB; rw [if_pos hbo])
        go_wp2_with (first
          | (go_at_call 65; ((with_reducible refine (limb_any _ Bd A n c xs HXr.out k (by omega)).mono ?_); rintro e w' ⟨rfl, rfl⟩))
          | (go_at_call 65; ((with_reducible refine (limb_any _ Bd A' n' c' ys HYr.out k (by omega)).mono ?_); rintro e w' ⟨rfl, rfl⟩)))
        go_roundw
        case rel => exact ⟨k + 1, 1, by omega, by omega, by go_num, by go_num, _, by simpa using hos, by have := hst.out; rwa [hB1.out] at this, hO.out.put (subD_lt _ _ _) (by unfold subD; omega), hBl.out.setCell (Nat.le_refl _) _⟩
        case measure => simp [intOf]; omega
      · have hB1 : Hid (subB (lm xs k) (lm ys k) q = 0) := hide (by unfold subB; rw [if_neg hbo])
        go_wp2_with (first
          | (go_at_call 65; ((with_reducible refine (limb_any _ Bd A n c xs HXr.out k (by omega)).mono ?_); rintro e w' ⟨rfl, rfl⟩))
          | (go_at_call 65; ((with_reducible refine (limb_any _ Bd A' n' c' ys HYr.out k (by omega)).mono ?_); rintro e w' ⟨rfl, rfl⟩)))
        go_roundw
        case rel => exact ⟨k + 1, 0, by omega, by omega, by go_num, by go_num, _, by simpa using hos, by have := hst.out; rwa [hB1.out] at this, hO.out.put (subD_lt _ _ _) (by unfold subD; omega), hBl.out.setCell (Nat.le_refl _) _⟩
        case measure => simp [intOf]; omega
    · have hkm : k = n := by omega
      subst hkm
      have hR := hO.rd0 (c := k) (by omega) (by omega) hO.lt
      rw [hos] at hR
      have hv : Hid (val os = val xs - val ys) := hide (rsub_end hos HX.out.len hO.limbs HX.out.limbs hq hle.out hval)
      clear hval
      replace hR := hide hR
      replace hO := hide hO
      replace hBl := hide hBl
      go_wp2_with fail
      refine (rnorm_any _ _ _ _ _ _ hR.out (Nat.le_refl _)).mono ?_
      rw [hv.out]
      rintro e w2 ⟨rfl, hO2, hb2, hlm⟩
      replace hO2 := hide hO2
      replace hb2 := hide hb2
      go_wp2
      go_ret2
      exact ⟨_, hBl.out.size, rfl, hO2.out, hBl.out.trans (hb2.out.mono hBl.out.size), hlm⟩

set_option maxHeartbeats 2000000 in
theorem rdiv_zero (w : World) (Bd : Nat) (A A' : Option Addr) (n c n' c' : Nat) (xs ys : List Nat) (hx : Rd w Bd A n c xs) (hy : Rd w Bd A' n' c' ys) (hB : Bd ≤ w.heap.size) (h0 : val ys = 0) :
    Calls Try.prog 57 #[.slice A n c, .slice A' n' c'] w (fun e w' => e = .returned (.tuple #[.slice none 0 0, .slice none 0 0, .bool false]) ∧ Below w.heap.size w w') := by
  have H := hide hx
  have H' := hide hy
  have hnx := fun (W : World) (hR : Rd W Bd A n c xs) (hb : Bd ≤ W.heap.size) => rnorm_any W Bd A n c xs hR hb
  have hny := fun (W : World) (hR : Rd W Bd A' n' c' ys) (hb : Bd ≤ W.heap.size) => rnorm_any W Bd A' n' c' ys hR hb
  have hxl : (dig (val xs)).length ≤ n := by rw [← hx.len]; exact dig_len_val hx.limbs
  clear hx hy
  generalize val xs = x at *
  generalize val ys = y at *
  obtain ⟨La, hLa⟩ : ∃ La, La = (dig x).length := ⟨_, rfl⟩
  obtain ⟨Lb, hLb⟩ : ∃ Lb, Lb = (dig y).length := ⟨_, rfl⟩
  obtain rfl : Lb = 0 := by rw [hLb, h0, dig_zero]; rfl
  rw [← hLa] at hxl
  replace hnx := hide hnx
  replace hny := hide hny
  replace hLa := hide hLa
  replace hLb := hide hLb
  go_enter Try.func57, Try.ntmps57
  go_wp2_with fail
  refine (hnx.out w H.out hB).mono ?_
  rintro e w1 ⟨rfl, hO1, hb1, hl1⟩
  rw [← hLa.out] at hl1 ⊢
  replace hO1 := hide hO1
  replace hb1 := hide hb1
  go_wp2_with fail
  refine (hny.out w1 (H'.out.below (hb1.out.mono hB)) (Nat.le_trans hB hb1.out.size)).mono ?_
  rintro e w2 ⟨rfl, hO2, hb2, hl2⟩
  rw [← hLb.out] at hl2 ⊢
  have hlt1 : w.heap.size < w1.heap.size := hO1.out.lt
  replace hO1 := hide (hO1.out.below hb2 hO1.out.lt)
  have hb := hide (hb1.out.trans (hb2.mono hb1.out.size))
  replace hO2 := hide hO2
  clear hb1 hb2 hnx hny H H'
  generalize w1.heap.size = gb at *
  go_wp2
  go_ret3
  exact ⟨rfl, hb.out⟩

set_option maxHeartbeats 2000000 in
theorem rdiv_one (w : World) (Bd : Nat) (A A' : Option Addr) (n c n' c' : Nat) (xs ys : List Nat) (hx : Rd w Bd A n c xs) (hy : Rd w Bd A' n' c' ys) (hB : Bd ≤ w.heap.size) (h1 : (dig (val ys)).length = 1) :
    Calls Try.prog 57 #[.slice A n c, .slice A' n' c'] w (RetDM w (val xs) (val ys)) := by
  have H := hide hx
  have H' := hide hy
  have hnx := fun (W : World) (hR : Rd W Bd A n c xs) (hb : Bd ≤ W.heap.size) => rnorm_any W Bd A n c xs hR hb
  have hny := fun (W : World) (hR : Rd W Bd A' n' c' ys) (hb : Bd ≤ W.heap.size) => rnorm_any W Bd A' n' c' ys hR hb
  have hxl : (dig (val xs)).length ≤ n := by rw [← hx.len]; exact dig_len_val hx.limbs
  clear hx hy
  generalize val xs = x at *
  generalize val ys = y at *
  obtain ⟨La, hLa⟩ : ∃ La, La = (dig x).length := ⟨_, rfl⟩
  obtain ⟨Lb, hLb⟩ : ∃ Lb, Lb = (dig y).length := ⟨_, rfl⟩
  have hy32 : y < 4294967296 := by
    have := (dig_len_le y 1).1 (by omega)
    simp only [pw] at this
    omega
  have hy0 : Hid (lm (dig y) 0 = y) := hide (by
    rw [dig_pos (by rintro rfl; rw [dig_zero] at h1; cases h1)]
    simp [lm]
    omega)
  have hyp : 0 < y := by
    rcases Nat.eq_zero_or_pos y with h | h
    · subst h; rw [dig_zero] at h1; cases h1
    · exact h
  obtain rfl : Lb = 1 := by omega
  rw [← hLa] at hxl
  replace hnx := hide hnx
  replace hny := hide hny
  replace hLa := hide hLa
  replace hLb := hide hLb
  go_enter Try.func57, Try.ntmps57
  go_wp2_with fail
  refine (hnx.out w H.out hB).mono ?_
  rintro e w1 ⟨rfl, hO1, hb1, hl1⟩
  rw [← hLa.out] at hl1 ⊢
  replace hO1 := hide hO1
  replace hb1 := hide hb1
  go_wp2_with fail
  refine (hny.out w1 (H'.out.below (hb1.out.mono hB)) (Nat.le_trans hB hb1.out.size)).mono ?_
  rintro e w2 ⟨rfl, hO2, hb2, hl2⟩
  rw [← hLb.out] at hl2 ⊢
  have hlt1 : w.heap.size < w1.heap.size := hO1.out.lt
  replace hO1 := hide (hO1.out.below hb2 hO1.out.lt)
  have hb := hide (hb1.out.trans (hb2.mono hb1.out.size))
  replace hO2 := hide hO2
  clear hb1 hb2 hnx hny H H'
  generalize w1.heap.size = gb at *
  have hc0 := hO2.out.cell (j := 0) (by rw [← hLb.out]; omega)
  rw [hy0.out] at hc0
  have hR := hO1.out.rd0 (c := La) (by rw [← hLa.out]; exact Nat.le_refl _) (by omega) (B := w2.heap.size) hO1.out.lt
  rw [← hLa.out] at hR
  have hsh := rshort_any w2 w2.heap.size (some ⟨w.heap.size, 0, none⟩) La La (dig x) y hR (Nat.le_refl _) hyp hy32
  rw [val_dig] at hsh
  have hrl : x % y < 4294967296 := Nat.lt_trans (Nat.mod_lt _ hyp) hy32
  obtain ⟨r, hr⟩ : ∃ r, r = x % y := ⟨_, rfl⟩
  rw [← hr] at hsh hrl
  replace hr := hide hr
  replace hsh := hide hsh
  clear hR
  go_wp2_with fail
  refine hsh.out.mono ?_
  rintro e w3 ⟨g3, hg3, rfl, hO3, hb3⟩
  have hQ := hO3.rd0 (c := (dig (x / y)).length) (Nat.le_refl _) (by have := dig_len_mono (Nat.div_le_self x y); rw [← hLa.out] at this; omega) (B := w3.heap.size) hO3.lt
  have hbb := hide (hb.out.trans (hb3.mono hb.out.size))
  replace hQ := hide hQ
  clear hO3 hb3 hc0 hsh hO1 hO2 hb
  go_wp2_with fail
  refine (rof_any w3 r (by omega)).mono ?_
  rintro e w4 ⟨A4, c4, rfl, hR4, hb4⟩
  have hQ4 := hide ((hQ.out.below hb4).more hb4.size)
  replace hR4 := hide hR4
  replace hb4 := hide hb4
  go_wp2
  go_ret3
  rw [hr.out] at hR4 ⊢
  exact ⟨_, _, _, _, rfl, hQ4.out, hR4.out, hbb.out.trans (hb4.out.mono hbb.out.size)⟩

end Go.Proofs.Ytjbbapibpcgnhaa
