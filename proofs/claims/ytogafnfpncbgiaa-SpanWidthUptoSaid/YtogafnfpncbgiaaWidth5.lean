/-
  SpanWidth.
-/
import Derived.Test.YtogafnfpncbgiaaLand5
namespace Go.Proofs.Ytogafnfpncbgiaa
open Go.RowKit


theorem rw_add {p q : Rat} (h : p ≤ q) : rhi p q - rlo p q = q - p := by rw [rhi_of_le h, rlo_of_le h]
theorem qabs_nn {x : Rat} (h : 0 ≤ x) : qabs x = x := by
  unfold qabs
  rw [if_neg (by have := Rat.num_nonneg.2 h; omega)]
theorem qabs_ng {x : Rat} (h : x < 0) : qabs x = -x := by
  unfold qabs
  rw [if_pos]
  refine Int.not_le.1 fun h2 => ?_
  have := Rat.num_nonneg.1 h2
  grind
theorem qabs_mulr (x r : Rat) : qabs (x * r) = qabs x * qabs r := by
  by_cases hx : 0 ≤ x <;> by_cases hr : 0 ≤ r
  · rw [qabs_nn hx, qabs_nn hr, qabs_nn (Rat.mul_nonneg hx hr)]
  · have h1 : 0 ≤ -r := by grind
    have h2 := Rat.mul_nonneg hx h1
    rw [qabs_nn hx, qabs_ng (Rat.not_le.1 hr)]
    by_cases h0 : 0 ≤ x * r
    · rw [qabs_nn h0]; grind
    · rw [qabs_ng (Rat.not_le.1 h0)]; grind
  · have h1 : 0 ≤ -x := by grind
    have h2 := Rat.mul_nonneg h1 hr
    rw [qabs_nn hr, qabs_ng (Rat.not_le.1 hx)]
    by_cases h0 : 0 ≤ x * r
    · rw [qabs_nn h0]; grind
    · rw [qabs_ng (Rat.not_le.1 h0)]; grind
  · have h1 : 0 ≤ -x := by grind
    have h3 : 0 ≤ -r := by grind
    have h2 := Rat.mul_nonneg h1 h3
    rw [qabs_ng (Rat.not_le.1 hr), qabs_ng (Rat.not_le.1 hx), qabs_nn (by grind)]
    grind
theorem rw_abs (a b : Rat) : rhi a b - rlo a b = qabs (b - a) := by
  by_cases h : b < a
  · rw [rhi_of_lt h, rlo_of_lt h, qabs_ng (by grind)]; grind
  · rw [rhi_of_le (Rat.not_lt.1 h), rlo_of_le (Rat.not_lt.1 h), qabs_nn (by grind)]
theorem rw_mul (p q r : Rat) : rhi (p * r) (q * r) - rlo (p * r) (q * r) = (rhi p q - rlo p q) * qabs r := by
  rw [rw_abs, rw_abs, ← qabs_mulr]
  congr 1
  grind

set_option maxHeartbeats 4000000 in
theorem width_walk {w : World} {Bd : Nat}  {a0 : Rc} {q_a0 : Rat} {a1 : Rc} {q_a1 : Rat} {b0 : Rc} {q_b0 : Rat} {b1 : Rc} {q_b1 : Rat} {r : Rc} {q_r : Rat} (h_a0 : Rq w Bd 1048576 a0 q_a0) (h_a1 : Rq w Bd 1048576 a1 q_a1) (h_b0 : Rq w Bd 1048576 b0 q_b0) (h_b1 : Rq w Bd 1048576 b1 q_b1) (h_r : Rq w Bd 1048576 r q_r) (hB : Bd ≤ w.heap.size)  :
    Calls Try.prog 5 #[.agg #[.bool a0.s, .slice a0.A a0.n a0.c, .slice a0.B a0.m a0.d, .bool a1.s, .slice a1.A a1.n a1.c, .slice a1.B a1.m a1.d], .agg #[.bool b0.s, .slice b0.A b0.n b0.c, .slice b0.B b0.m b0.d, .bool b1.s, .slice b1.A b1.n b1.c, .slice b1.B b1.m b1.d], .agg #[.bool r.s, .slice r.A r.n r.c, .slice r.B r.m r.d]] w (RetB w (.bool true)) := by
  obtain ⟨la, hla⟩ : ∃ l, rlo q_a0 q_a1 = l := ⟨_, rfl⟩
  obtain ⟨ha, hha⟩ : ∃ h, rhi q_a0 q_a1 = h := ⟨_, rfl⟩
  have oa : la ≤ ha := by rw [← hla, ← hha]; exact rlo_le_rhi _ _
  obtain ⟨lb, hlb⟩ : ∃ l, rlo q_b0 q_b1 = l := ⟨_, rfl⟩
  obtain ⟨hb, hhb⟩ : ∃ h, rhi q_b0 q_b1 = h := ⟨_, rfl⟩
  have ob : lb ≤ hb := by rw [← hlb, ← hhb]; exact rlo_le_rhi _ _
  obtain ⟨da, hda⟩ : ∃ d, ha - la = d := ⟨_, rfl⟩
  obtain ⟨db, hdb⟩ : ∃ d, hb - lb = d := ⟨_, rfl⟩
  obtain ⟨s, hs⟩ : ∃ d, da + db = d := ⟨_, rfl⟩
  have wa : rhi q_a0 q_a1 - rlo q_a0 q_a1 = da := by rw [hla, hha]; exact hda
  have wb : rhi q_b0 q_b1 - rlo q_b0 q_b1 = db := by rw [hlb, hhb]; exact hdb
  obtain ⟨k, hk⟩ : ∃ k, sgn da.num = k := ⟨_, rfl⟩
  obtain ⟨c, hc⟩ : ∃ k, sgn (q_a0 - q_a1).num = k := ⟨_, rfl⟩
  have hk2 : sgn (ha - la).num = k := by rw [hda]; exact hk
  have hkn : decide (k < 0) = false := by refine decide_eq_false ?_; rw [← hk2, cmp_lt]; exact Rat.not_lt.2 oa
  obtain ⟨bb, hkb⟩ : ∃ b, (k == 0) = b := ⟨_, rfl⟩
  have hcb : (c == 0) = bb := by rw [← hkb, ← hk2, ← hc, ← hla, ← hha, Bool.eq_iff_iff, beq_iff_eq, beq_iff_eq, cmp_eq, cmp_eq]; unfold rlo rhi; split <;> grind
  obtain ⟨pl, hpl⟩ : ∃ d, la + lb = d := ⟨_, rfl⟩
  obtain ⟨ph, hph⟩ : ∃ d, ha + hb = d := ⟨_, rfl⟩
  have epl : rlo q_a0 q_a1 + rlo q_b0 q_b1 = pl := by rw [hla, hlb]; exact hpl
  have eph : rhi q_a0 q_a1 + rhi q_b0 q_b1 = ph := by rw [hha, hhb]; exact hph
  have wp : rhi pl ph - rlo pl ph = s := by rw [rw_add (by grind)]; grind
  obtain ⟨ml, hml⟩ : ∃ d, la - hb = d := ⟨_, rfl⟩
  obtain ⟨mh, hmh⟩ : ∃ d, ha - lb = d := ⟨_, rfl⟩
  have eml : rlo q_a0 q_a1 - rhi q_b0 q_b1 = ml := by rw [hla, hhb]; exact hml
  have emh : rhi q_a0 q_a1 - rlo q_b0 q_b1 = mh := by rw [hha, hlb]; exact hmh
  have wm : rhi ml mh - rlo ml mh = s := by rw [rw_add (by grind)]; grind
  obtain ⟨sl, hsl⟩ : ∃ d, rlo (q_a0 * q_r) (q_a1 * q_r) = d := ⟨_, rfl⟩
  obtain ⟨sh, hsh⟩ : ∃ d, rhi (q_a0 * q_r) (q_a1 * q_r) = d := ⟨_, rfl⟩
  obtain ⟨ar, har⟩ : ∃ d, qabs q_r = d := ⟨_, rfl⟩
  obtain ⟨t, ht⟩ : ∃ d, da * ar = d := ⟨_, rfl⟩
  obtain ⟨lo2, hlo2⟩ : ∃ d, rlo sl sh = d := ⟨_, rfl⟩
  have ws : rhi sl sh - rlo sl sh = t := by rw [rw_add (by rw [← hsl, ← hsh]; exact rlo_le_rhi _ _), ← hsl, ← hsh, rw_mul, wa, har]; exact ht
  clear hlo2 oa ob hda hdb hk2 hpl hph hml hmh hla hha hlb hhb
  replace hs := hide hs
  replace wa := hide wa
  replace wb := hide wb
  replace hk := hide hk
  replace hc := hide hc
  replace epl := hide epl
  replace eph := hide eph
  replace eml := hide eml
  replace emh := hide emh
  replace wp := hide wp
  replace wm := hide wm
  replace hsl := hide hsl
  replace hsh := hide hsh
  replace har := hide har
  replace ht := hide ht
  replace ws := hide ws
  obtain ⟨W, hW⟩ : ∃ W, W = (((w.alloc (.cells #[.bool a0.s, .slice a0.A a0.n a0.c, .slice a0.B a0.m a0.d, .bool a1.s, .slice a1.A a1.n a1.c, .slice a1.B a1.m a1.d] 29)).alloc (.cells #[.bool b0.s, .slice b0.A b0.n b0.c, .slice b0.B b0.m b0.d, .bool b1.s, .slice b1.A b1.n b1.c, .slice b1.B b1.m b1.d] 29)).alloc (.cells #[.bool r.s, .slice r.A r.n r.c, .slice r.B r.m r.d] 27)) := ⟨_, rfl⟩
  have b_a : Box6 W (w.heap.size) (.bool a0.s) (.slice a0.A a0.n a0.c) (.slice a0.B a0.m a0.d) (.bool a1.s) (.slice a1.A a1.n a1.c) (.slice a1.B a1.m a1.d) := by rw [hW]; exact (((Box6.new w _ _ _ _ _ _ rfl).al _).al _)
  have b_b : Box6 W (w.heap.size + 1) (.bool b0.s) (.slice b0.A b0.n b0.c) (.slice b0.B b0.m b0.d) (.bool b1.s) (.slice b1.A b1.n b1.c) (.slice b1.B b1.m b1.d) := by rw [hW]; exact ((Box6.new _ _ _ _ _ _ _ (by simp)).al _)
  have b_r : Box3 W (w.heap.size + 1 + 1) (.bool r.s) (.slice r.A r.n r.c) (.slice r.B r.m r.d) := by rw [hW]; exact (Box3.new _ _ _ _ (by simp))
  have hwW : Below w.heap.size w W := by rw [hW]; exact ((((Below.refl _ _).alloc (Nat.le_refl _) _).alloc (by simp) _).alloc (by simp; omega) _)
  have R_a0 := hide (h_a0.upto hwW hB)
  clear h_a0
  have R_a1 := hide (h_a1.upto hwW hB)
  clear h_a1
  have R_b0 := hide (h_b0.upto hwW hB)
  clear h_b0
  have R_b1 := hide (h_b1.upto hwW hB)
  clear h_b1
  have R_r := hide (h_r.upto hwW hB)
  clear h_r
  have B := hide hwW
  clear hwW
  clear hB
  have U0 : Below W.heap.size W W := Below.refl _ _
  have c_a0 := b_a.at0 b_a.lt_size (Nat.le_refl _)
  have c_a1 := b_a.at1 b_a.lt_size (Nat.le_refl _)
  have c_a2 := b_a.at2 b_a.lt_size (Nat.le_refl _)
  have c_a3 := b_a.at3 b_a.lt_size (Nat.le_refl _)
  have c_a4 := b_a.at4 b_a.lt_size (Nat.le_refl _)
  have c_a5 := b_a.at5 b_a.lt_size (Nat.le_refl _)
  replace b_a := hide b_a
  have c_b0 := b_b.at0 b_b.lt_size (Nat.le_refl _)
  have c_b1 := b_b.at1 b_b.lt_size (Nat.le_refl _)
  have c_b2 := b_b.at2 b_b.lt_size (Nat.le_refl _)
  have c_b3 := b_b.at3 b_b.lt_size (Nat.le_refl _)
  have c_b4 := b_b.at4 b_b.lt_size (Nat.le_refl _)
  have c_b5 := b_b.at5 b_b.lt_size (Nat.le_refl _)
  replace b_b := hide b_b
  have c_r0 := b_r.at0 b_r.lt_size (Nat.le_refl _)
  have c_r1 := b_r.at1 b_r.lt_size (Nat.le_refl _)
  have c_r2 := b_r.at2 b_r.lt_size (Nat.le_refl _)
  replace b_r := hide b_r
  go_enter Try.func5, Try.ntmps5
  go_wp2_with fail
  rw [← hW]
  clear hW
  refine (width_any (L := 1048576) (by omega) (Rq.le (M := 1048576) R_a0.out (by omega)) (Rq.le (M := 1048576) R_a1.out (by omega)) (Nat.le_refl _) wa.out).mono ?_
  rintro e w1 ⟨x_w, rfl, R_w, hb⟩
  replace R_a0 := hide (R_a0.out.then_ hb)
  replace R_a1 := hide (R_a1.out.then_ hb)
  replace R_b0 := hide (R_b0.out.then_ hb)
  replace R_b1 := hide (R_b1.out.then_ hb)
  replace R_r := hide (R_r.out.then_ hb)
  have U1 : Below W.heap.size W w1 := Below.then_ U0 hb
  replace B := hide (Below.then_ B.out hb)
  replace R_w := hide R_w
  clear hb
  have hbx : Below w1.heap.size w1 (w1.alloc (.cells #[.bool x_w.s, .slice x_w.A x_w.n x_w.c, .slice x_w.B x_w.m x_w.d] 27)) := ((Below.refl _ _).alloc (Nat.le_refl _) _)
  have Ux := Below.then_ U1 hbx
  go_wp2_with fail
  obtain ⟨V1, hV⟩ : ∃ V, V = (w1.alloc (.cells #[.bool x_w.s, .slice x_w.A x_w.n x_w.c, .slice x_w.B x_w.m x_w.d] 27)) := ⟨_, rfl⟩
  obtain ⟨g_w, hg_w⟩ : ∃ g, g = w1.heap.size := ⟨_, rfl⟩
  rw [← hV]
  rw [← hV] at hbx Ux
  rw [← hg_w]
  have b_w : Box3 V1 g_w (.bool x_w.s) (.slice x_w.A x_w.n x_w.c) (.slice x_w.B x_w.m x_w.d) := by rw [hV]; exact (Box3.new _ _ _ _ hg_w)
  clear hV
  have ne_a_w : w.heap.size ≠ g_w := by have := (b_a.out.lt b_a.out.lt_size (Nat.le_refl _)) _ U1; omega
  replace ne_a_w := hide ne_a_w
  have ne_b_w : w.heap.size + 1 ≠ g_w := by have := (b_b.out.lt b_b.out.lt_size (Nat.le_refl _)) _ U1; omega
  replace ne_b_w := hide ne_b_w
  have ne_r_w : w.heap.size + 1 + 1 ≠ g_w := by have := (b_r.out.lt b_r.out.lt_size (Nat.le_refl _)) _ U1; omega
  replace ne_r_w := hide ne_r_w
  have ge_w : w.heap.size ≤ g_w := by have := B.out.size; omega
  replace ge_w := hide ge_w
  clear hg_w
  replace R_a0 := hide (R_a0.out.then_ hbx)
  replace R_a1 := hide (R_a1.out.then_ hbx)
  replace R_b0 := hide (R_b0.out.then_ hbx)
  replace R_b1 := hide (R_b1.out.then_ hbx)
  replace R_r := hide (R_r.out.then_ hbx)
  replace R_w := hide (R_w.out.then_ hbx)
  have U2 : Below W.heap.size W V1 := Below.then_ U1 hbx
  replace B := hide (Below.then_ B.out hbx)
  clear hbx
  replace b_a := hide (Box6.keep b_a.out U2)
  clear c_a0 c_a1 c_a2 c_a3 c_a4 c_a5
  replace b_b := hide (Box6.keep b_b.out U2)
  clear c_b0 c_b1 c_b2 c_b3 c_b4 c_b5
  replace b_r := hide (Box3.keep b_r.out U2)
  clear c_r0 c_r1 c_r2
  replace b_w := hide b_w
  have U3 : Below V1.heap.size V1 V1 := Below.refl _ _
  have c_a0 := b_a.out.at0 b_a.out.lt_size (Nat.le_refl _)
  have c_a1 := b_a.out.at1 b_a.out.lt_size (Nat.le_refl _)
  have c_a2 := b_a.out.at2 b_a.out.lt_size (Nat.le_refl _)
  have c_a3 := b_a.out.at3 b_a.out.lt_size (Nat.le_refl _)
  have c_a4 := b_a.out.at4 b_a.out.lt_size (Nat.le_refl _)
  have c_a5 := b_a.out.at5 b_a.out.lt_size (Nat.le_refl _)
  have c_b0 := b_b.out.at0 b_b.out.lt_size (Nat.le_refl _)
  have c_b1 := b_b.out.at1 b_b.out.lt_size (Nat.le_refl _)
  have c_b2 := b_b.out.at2 b_b.out.lt_size (Nat.le_refl _)
  have c_b3 := b_b.out.at3 b_b.out.lt_size (Nat.le_refl _)
  have c_b4 := b_b.out.at4 b_b.out.lt_size (Nat.le_refl _)
  have c_b5 := b_b.out.at5 b_b.out.lt_size (Nat.le_refl _)
  have c_r0 := b_r.out.at0 b_r.out.lt_size (Nat.le_refl _)
  have c_r1 := b_r.out.at1 b_r.out.lt_size (Nat.le_refl _)
  have c_r2 := b_r.out.at2 b_r.out.lt_size (Nat.le_refl _)
  have c_w0 := b_w.out.at0 b_w.out.lt_size (Nat.le_refl _)
  have c_w1 := b_w.out.at1 b_w.out.lt_size (Nat.le_refl _)
  have c_w2 := b_w.out.at2 b_w.out.lt_size (Nat.le_refl _)
  go_wp2_with fail
  refine Code.wp_mono (Q := fun e a' w' => e = .normal ∧ ∃ (g : Nat) (x : Rc) (v9 v10 v11 v12 v13 v14 : Value), a' = ⟨#[.agg #[.bool a0.s, .slice a0.A a0.n a0.c, .slice a0.B a0.m a0.d, .bool a1.s, .slice a1.A a1.n a1.c, .slice a1.B a1.m a1.d], .agg #[.bool b0.s, .slice b0.A b0.n b0.c, .slice b0.B b0.m b0.d, .bool b1.s, .slice b1.A b1.n b1.c, .slice b1.B b1.m b1.d], .agg #[.bool r.s, .slice r.A r.n r.c, .slice r.B r.m r.d], (.pointer (some ⟨w.heap.size, 0, none⟩)), (.pointer (some ⟨w.heap.size + 1, 0, none⟩)), (.pointer (some ⟨w.heap.size + 1 + 1, 0, none⟩)), .bool false, (.pointer (some ⟨g_w, 0, none⟩)), (.pointer (some ⟨g, 0, none⟩)), v9, v10, v11, v12, v13, v14, undef, undef, undef, undef, undef, undef, undef, undef, undef, undef, undef, undef, undef, undef, undef, undef, undef, undef, undef, undef, undef, undef, undef, undef, undef, undef, undef, undef, undef, undef, undef, undef, undef, undef, undef, undef, undef, undef, undef, undef, undef, undef, undef], []⟩ ∧ LandN V1 w' g 4194313 x s) ?_ ?_
  rotate_left
  · skip
    have hd := Below.drw_ V1
    replace R_a0 := hide (R_a0.out.then_ hd)
    replace R_a1 := hide (R_a1.out.then_ hd)
    replace R_b0 := hide (R_b0.out.then_ hd)
    replace R_b1 := hide (R_b1.out.then_ hd)
    replace R_r := hide (R_r.out.then_ hd)
    replace R_w := hide (R_w.out.then_ hd)
    have U4 : Below V1.heap.size V1 (V1.drew) := Below.then_ U3 hd
    replace B := hide (Below.then_ B.out hd)
    clear hd
    have tok1 : True := trivial
    go_region_held3 (fun w' => Below V1.heap.size V1 w') (first | (with_reducible assumption) | (with_reducible exact Below.al_ (by with_reducible assumption) _) | (with_reducible exact Below.al_drew (by with_reducible assumption) _) | (with_reducible exact (landN_new U6 R_s.out).below) | (with_reducible exact (landN_set U6 R_s.out X6.out).below) | (with_reducible exact (landN_late U6 R_s.out).below))
      (first
        | (go_at_call 22; (have _t := tok1; (with_reducible refine (width_any (L := 1048576) (by omega) (Rq.le (M := 1048576) (by with_reducible first | exact (by first | exact R_b0.out | exact Rd.al_ R_b0.out | exact Rd.al_drew R_b0.out) | exact Rq.al_ (by first | exact R_b0.out | exact Rd.al_ R_b0.out | exact Rd.al_drew R_b0.out) _ | exact Rq.al_drew (by first | exact R_b0.out | exact Rd.al_ R_b0.out | exact Rd.al_drew R_b0.out) _) (by omega)) (Rq.le (M := 1048576) (by with_reducible first | exact (by first | exact R_b1.out | exact Rd.al_ R_b1.out | exact Rd.al_drew R_b1.out) | exact Rq.al_ (by first | exact R_b1.out | exact Rd.al_ R_b1.out | exact Rd.al_drew R_b1.out) _ | exact Rq.al_drew (by first | exact R_b1.out | exact Rd.al_ R_b1.out | exact Rd.al_drew R_b1.out) _) (by omega)) (Nat.le_refl _) wb.out).mono ?_); rintro e w2 ⟨x_d, rfl, R_d, hb⟩; have hb1 : Below (V1.drew).heap.size (V1.drew) w2 := (by with_reducible first | exact hb | exact Below.al_then hb | exact Below.al_then_drew hb); replace R_a0 := hide (R_a0.out.then_ hb1); replace R_a1 := hide (R_a1.out.then_ hb1); replace R_b0 := hide (R_b0.out.then_ hb1); replace R_b1 := hide (R_b1.out.then_ hb1); replace R_r := hide (R_r.out.then_ hb1); replace R_w := hide (R_w.out.then_ hb1); (first | (have X5 := hide (XBox3.made_drew U4 hb)) | (have X5 := hide (XBox3.made U4 hb)) | (have X5 := hide (XBox3.keep X0.out hb1)) | skip); have U5 : Below V1.heap.size V1 w2 := Below.then_ U4 hb1; replace B := hide (Below.then_ B.out hb1); clear hb1; replace R_d := hide R_d; clear hb; have tok2 : True := trivial; clear _t tok1))
        | (go_at_call 10; (have _t := tok2; (with_reducible refine (add_q (Nq.rq (by with_reducible first | exact (by first | exact R_w.out | exact Rd.al_ R_w.out | exact Rd.al_drew R_w.out) | exact Nq.al_ (by first | exact R_w.out | exact Rd.al_ R_w.out | exact Rd.al_drew R_w.out) _ | exact Nq.al_drew (by first | exact R_w.out | exact Rd.al_ R_w.out | exact Rd.al_drew R_w.out) _)) (by omega) (Nq.rq (by with_reducible first | exact (by first | exact R_d.out | exact Rd.al_ R_d.out | exact Rd.al_drew R_d.out) | exact Nq.al_ (by first | exact R_d.out | exact Rd.al_ R_d.out | exact Rd.al_drew R_d.out) _ | exact Nq.al_drew (by first | exact R_d.out | exact Rd.al_ R_d.out | exact Rd.al_drew R_d.out) _)) (by omega) (Nat.le_refl _) hs.out).mono ?_); rintro e w3 ⟨x_s, rfl, R_s, hb⟩; have hb1 : Below w2.heap.size w2 w3 := (by with_reducible first | exact hb | exact Below.al_then hb | exact Below.al_then_drew hb); replace R_a0 := hide (R_a0.out.then_ hb1); replace R_a1 := hide (R_a1.out.then_ hb1); replace R_b0 := hide (R_b0.out.then_ hb1); replace R_b1 := hide (R_b1.out.then_ hb1); replace R_r := hide (R_r.out.then_ hb1); replace R_w := hide (R_w.out.then_ hb1); replace R_d := hide (R_d.out.then_ hb1); (first | (have X6 := hide (XBox3.made_drew U5 hb)) | (have X6 := hide (XBox3.made U5 hb)) | (have X6 := hide (XBox3.keep X5.out hb1)) | skip); have U6 : Below V1.heap.size V1 w3 := Below.then_ U5 hb1; replace B := hide (Below.then_ B.out hb1); clear hb1; replace R_s := hide R_s; clear hb; have tok3 : True := trivial; clear _t tok2; (first | (have xf := XBox3.facts X6.out; obtain ⟨x0, x1, x2, x3, x4⟩ := xf) | skip))))
    all_goals (refine ⟨rfl, _, x_s, _, _, _, _, _, _, rfl, ?_⟩; first | exact landN_new U6 (R_s.out.le (M := 4194313) (by omega)) | exact landN_set U6 (R_s.out.le (M := 4194313) (by omega)) X6.out | exact landN_late U6 (R_s.out.le (M := 4194313) (by omega)))
  rintro e a' w4 ⟨rfl, g_s, x_s, v9, v10, v11, v12, v13, v14, rfl, hbx, b_s, R_s, hg_s⟩
  replace R_s := hide R_s
  have ne_a_s : w.heap.size ≠ g_s := by have := (b_a.out.lt b_a.out.lt_size (Nat.le_refl _)) _ U3; omega
  replace ne_a_s := hide ne_a_s
  have ne_b_s : w.heap.size + 1 ≠ g_s := by have := (b_b.out.lt b_b.out.lt_size (Nat.le_refl _)) _ U3; omega
  replace ne_b_s := hide ne_b_s
  have ne_r_s : w.heap.size + 1 + 1 ≠ g_s := by have := (b_r.out.lt b_r.out.lt_size (Nat.le_refl _)) _ U3; omega
  replace ne_r_s := hide ne_r_s
  have ne_w_s : g_w ≠ g_s := by have := (b_w.out.lt b_w.out.lt_size (Nat.le_refl _)) _ U3; omega
  replace ne_w_s := hide ne_w_s
  have ge_s : w.heap.size ≤ g_s := by have := B.out.size; omega
  replace ge_s := hide ge_s
  clear hg_s
  replace R_a0 := hide (R_a0.out.then_ hbx)
  replace R_a1 := hide (R_a1.out.then_ hbx)
  replace R_b0 := hide (R_b0.out.then_ hbx)
  replace R_b1 := hide (R_b1.out.then_ hbx)
  replace R_r := hide (R_r.out.then_ hbx)
  replace R_w := hide (R_w.out.then_ hbx)
  have U4 : Below V1.heap.size V1 w4 := Below.then_ U3 hbx
  replace B := hide (Below.then_ B.out hbx)
  clear hbx
  replace b_a := hide (Box6.keep b_a.out U4)
  clear c_a0 c_a1 c_a2 c_a3 c_a4 c_a5
  replace b_b := hide (Box6.keep b_b.out U4)
  clear c_b0 c_b1 c_b2 c_b3 c_b4 c_b5
  replace b_r := hide (Box3.keep b_r.out U4)
  clear c_r0 c_r1 c_r2
  replace b_w := hide (Box3.keep b_w.out U4)
  clear c_w0 c_w1 c_w2
  replace b_s := hide b_s
  have U5 : Below w4.heap.size w4 w4 := Below.refl _ _
  have c_a0 := b_a.out.at0 b_a.out.lt_size (Nat.le_refl _)
  have c_a1 := b_a.out.at1 b_a.out.lt_size (Nat.le_refl _)
  have c_a2 := b_a.out.at2 b_a.out.lt_size (Nat.le_refl _)
  have c_a3 := b_a.out.at3 b_a.out.lt_size (Nat.le_refl _)
  have c_a4 := b_a.out.at4 b_a.out.lt_size (Nat.le_refl _)
  have c_a5 := b_a.out.at5 b_a.out.lt_size (Nat.le_refl _)
  have c_b0 := b_b.out.at0 b_b.out.lt_size (Nat.le_refl _)
  have c_b1 := b_b.out.at1 b_b.out.lt_size (Nat.le_refl _)
  have c_b2 := b_b.out.at2 b_b.out.lt_size (Nat.le_refl _)
  have c_b3 := b_b.out.at3 b_b.out.lt_size (Nat.le_refl _)
  have c_b4 := b_b.out.at4 b_b.out.lt_size (Nat.le_refl _)
  have c_b5 := b_b.out.at5 b_b.out.lt_size (Nat.le_refl _)
  have c_r0 := b_r.out.at0 b_r.out.lt_size (Nat.le_refl _)
  have c_r1 := b_r.out.at1 b_r.out.lt_size (Nat.le_refl _)
  have c_r2 := b_r.out.at2 b_r.out.lt_size (Nat.le_refl _)
  have c_w0 := b_w.out.at0 b_w.out.lt_size (Nat.le_refl _)
  have c_w1 := b_w.out.at1 b_w.out.lt_size (Nat.le_refl _)
  have c_w2 := b_w.out.at2 b_w.out.lt_size (Nat.le_refl _)
  have c_s0 := b_s.out.at0 b_s.out.lt_size (Nat.le_refl _)
  have c_s1 := b_s.out.at1 b_s.out.lt_size (Nat.le_refl _)
  have c_s2 := b_s.out.at2 b_s.out.lt_size (Nat.le_refl _)
  go_wp2_with fail
  have hd := Below.drw_ w4
  replace R_a0 := hide (R_a0.out.then_ hd)
  replace R_a1 := hide (R_a1.out.then_ hd)
  replace R_b0 := hide (R_b0.out.then_ hd)
  replace R_b1 := hide (R_b1.out.then_ hd)
  replace R_r := hide (R_r.out.then_ hd)
  replace R_w := hide (R_w.out.then_ hd)
  replace R_s := hide (R_s.out.then_ hd)
  have U6 : Below w4.heap.size w4 (w4.drew) := Below.then_ U5 hd
  replace B := hide (Below.then_ B.out hd)
  clear hd
  have tok1 : True := trivial
  go_region_held3 (fun w' => Below w4.heap.size w4 w') (assumption)
    (first
      | (go_at_call 23; (have _t := tok1; (with_reducible refine (sign_q (Nq.rq R_w.out) (by omega) (Nat.le_refl _) hk.out).mono ?_); rintro e w5 ⟨rfl, hb⟩; replace R_a0 := hide (R_a0.out.then_ hb); replace R_a1 := hide (R_a1.out.then_ hb); replace R_b0 := hide (R_b0.out.then_ hb); replace R_b1 := hide (R_b1.out.then_ hb); replace R_r := hide (R_r.out.then_ hb); replace R_w := hide (R_w.out.then_ hb); replace R_s := hide (R_s.out.then_ hb); have U7 : Below w4.heap.size w4 w5 := Below.then_ U6 hb; replace B := hide (Below.then_ B.out hb); clear hb; have tok2 : True := trivial; clear _t tok1))
      | (go_at_call 23; (have _t := tok2; (with_reducible refine (sign_q (Nq.rq R_w.out) (by omega) (Nat.le_refl _) hk.out).mono ?_); rintro e w6 ⟨rfl, hb⟩; replace R_a0 := hide (R_a0.out.then_ hb); replace R_a1 := hide (R_a1.out.then_ hb); replace R_b0 := hide (R_b0.out.then_ hb); replace R_b1 := hide (R_b1.out.then_ hb); replace R_r := hide (R_r.out.then_ hb); replace R_w := hide (R_w.out.then_ hb); replace R_s := hide (R_s.out.then_ hb); have U8 : Below w4.heap.size w4 w6 := Below.then_ U7 hb; replace B := hide (Below.then_ B.out hb); clear hb; have tok3 : True := trivial; clear _t tok2))
      | (go_at_call 24; (have _t := tok3; (with_reducible refine (cmp_q R_a0.out (by omega) R_a1.out (by omega) (Nat.le_refl _) hc.out).mono ?_); rintro e w7 ⟨rfl, hb⟩; replace R_a0 := hide (R_a0.out.then_ hb); replace R_a1 := hide (R_a1.out.then_ hb); replace R_b0 := hide (R_b0.out.then_ hb); replace R_b1 := hide (R_b1.out.then_ hb); replace R_r := hide (R_r.out.then_ hb); replace R_w := hide (R_w.out.then_ hb); replace R_s := hide (R_s.out.then_ hb); have U9 : Below w4.heap.size w4 w7 := Below.then_ U8 hb; replace B := hide (Below.then_ B.out hb); clear hb; have tok4 : True := trivial; clear _t tok3)))
  clear tok4
  go_wp2_with fail
  have hd := Below.drw_ w7
  replace R_a0 := hide (R_a0.out.then_ hd)
  replace R_a1 := hide (R_a1.out.then_ hd)
  replace R_b0 := hide (R_b0.out.then_ hd)
  replace R_b1 := hide (R_b1.out.then_ hd)
  replace R_r := hide (R_r.out.then_ hd)
  replace R_w := hide (R_w.out.then_ hd)
  replace R_s := hide (R_s.out.then_ hd)
  have U10 : Below w4.heap.size w4 (w7.drew) := Below.then_ U9 hd
  replace B := hide (Below.then_ B.out hd)
  clear hd
  have tok5 : True := trivial
  go_region_held3 (fun w' => Below w4.heap.size w4 w') (assumption)
    (first
      | (go_at_call 9; (have _t := tok5; (with_reducible refine (sadd_any (L := 1048576) (by omega) (Rq.le (M := 1048576) R_a0.out (by omega)) (Rq.le (M := 1048576) R_a1.out (by omega)) (Rq.le (M := 1048576) R_b0.out (by omega)) (Rq.le (M := 1048576) R_b1.out (by omega)) (Nat.le_refl _) epl.out eph.out).mono ?_); rintro e w8 ⟨x_p0, x_p1, rfl, R_p0, R_p1, hb⟩; replace R_a0 := hide (R_a0.out.then_ hb); replace R_a1 := hide (R_a1.out.then_ hb); replace R_b0 := hide (R_b0.out.then_ hb); replace R_b1 := hide (R_b1.out.then_ hb); replace R_r := hide (R_r.out.then_ hb); replace R_w := hide (R_w.out.then_ hb); replace R_s := hide (R_s.out.then_ hb); have U11 : Below w4.heap.size w4 w8 := Below.then_ U10 hb; replace B := hide (Below.then_ B.out hb); replace R_p0 := hide R_p0; replace R_p1 := hide R_p1; clear hb; have tok6 : True := trivial; clear _t tok5))
      | (go_at_call 22; (have _t := tok6; (with_reducible refine (width_any (L := 2097155) (by omega) (Rq.le (M := 2097155) (Nq.rq R_p0.out) (by omega)) (Rq.le (M := 2097155) (Nq.rq R_p1.out) (by omega)) (Nat.le_refl _) wp.out).mono ?_); rintro e w9 ⟨x_e, rfl, R_e, hb⟩; replace R_a0 := hide (R_a0.out.then_ hb); replace R_a1 := hide (R_a1.out.then_ hb); replace R_b0 := hide (R_b0.out.then_ hb); replace R_b1 := hide (R_b1.out.then_ hb); replace R_r := hide (R_r.out.then_ hb); replace R_w := hide (R_w.out.then_ hb); replace R_s := hide (R_s.out.then_ hb); replace R_p0 := hide (R_p0.out.then_ hb); replace R_p1 := hide (R_p1.out.then_ hb); have U12 : Below w4.heap.size w4 w9 := Below.then_ U11 hb; replace B := hide (Below.then_ B.out hb); replace R_e := hide R_e; clear hb; have tok7 : True := trivial; clear _t tok6))
      | (go_at_call 25; (have _t := tok7; (with_reducible refine (equal_q R_e.out R_s.out (Nat.le_refl _) (decide_eq_true rfl)).mono ?_); rintro e w10 ⟨rfl, hb⟩; replace R_a0 := hide (R_a0.out.then_ hb); replace R_a1 := hide (R_a1.out.then_ hb); replace R_b0 := hide (R_b0.out.then_ hb); replace R_b1 := hide (R_b1.out.then_ hb); replace R_r := hide (R_r.out.then_ hb); replace R_w := hide (R_w.out.then_ hb); replace R_s := hide (R_s.out.then_ hb); replace R_p0 := hide (R_p0.out.then_ hb); replace R_p1 := hide (R_p1.out.then_ hb); replace R_e := hide (R_e.out.then_ hb); have U13 : Below w4.heap.size w4 w10 := Below.then_ U12 hb; replace B := hide (Below.then_ B.out hb); clear hb; have tok8 : True := trivial; clear _t tok7))
      | (go_at_call 11; (have _t := tok8; (with_reducible refine (ssub_any (L := 1048576) (by omega) (Rq.le (M := 1048576) R_a0.out (by omega)) (Rq.le (M := 1048576) R_a1.out (by omega)) (Rq.le (M := 1048576) R_b0.out (by omega)) (Rq.le (M := 1048576) R_b1.out (by omega)) (Nat.le_refl _) eml.out emh.out).mono ?_); rintro e w11 ⟨x_m0, x_m1, rfl, R_m0, R_m1, hb⟩; replace R_a0 := hide (R_a0.out.then_ hb); replace R_a1 := hide (R_a1.out.then_ hb); replace R_b0 := hide (R_b0.out.then_ hb); replace R_b1 := hide (R_b1.out.then_ hb); replace R_r := hide (R_r.out.then_ hb); replace R_w := hide (R_w.out.then_ hb); replace R_s := hide (R_s.out.then_ hb); replace R_p0 := hide (R_p0.out.then_ hb); replace R_p1 := hide (R_p1.out.then_ hb); replace R_e := hide (R_e.out.then_ hb); have U14 : Below w4.heap.size w4 w11 := Below.then_ U13 hb; replace B := hide (Below.then_ B.out hb); replace R_m0 := hide R_m0; replace R_m1 := hide R_m1; clear hb; have tok9 : True := trivial; clear _t tok8))
      | (go_at_call 22; (have _t := tok9; (with_reducible refine (width_any (L := 2097155) (by omega) (Rq.le (M := 2097155) (Nq.rq R_m0.out) (by omega)) (Rq.le (M := 2097155) (Nq.rq R_m1.out) (by omega)) (Nat.le_refl _) wm.out).mono ?_); rintro e w12 ⟨x_f, rfl, R_f, hb⟩; replace R_a0 := hide (R_a0.out.then_ hb); replace R_a1 := hide (R_a1.out.then_ hb); replace R_b0 := hide (R_b0.out.then_ hb); replace R_b1 := hide (R_b1.out.then_ hb); replace R_r := hide (R_r.out.then_ hb); replace R_w := hide (R_w.out.then_ hb); replace R_s := hide (R_s.out.then_ hb); replace R_p0 := hide (R_p0.out.then_ hb); replace R_p1 := hide (R_p1.out.then_ hb); replace R_e := hide (R_e.out.then_ hb); replace R_m0 := hide (R_m0.out.then_ hb); replace R_m1 := hide (R_m1.out.then_ hb); have U15 : Below w4.heap.size w4 w12 := Below.then_ U14 hb; replace B := hide (Below.then_ B.out hb); replace R_f := hide R_f; clear hb; have tok10 : True := trivial; clear _t tok9))
      | (go_at_call 25; (have _t := tok10; (with_reducible refine (equal_q R_f.out R_s.out (Nat.le_refl _) (decide_eq_true rfl)).mono ?_); rintro e w13 ⟨rfl, hb⟩; replace R_a0 := hide (R_a0.out.then_ hb); replace R_a1 := hide (R_a1.out.then_ hb); replace R_b0 := hide (R_b0.out.then_ hb); replace R_b1 := hide (R_b1.out.then_ hb); replace R_r := hide (R_r.out.then_ hb); replace R_w := hide (R_w.out.then_ hb); replace R_s := hide (R_s.out.then_ hb); replace R_p0 := hide (R_p0.out.then_ hb); replace R_p1 := hide (R_p1.out.then_ hb); replace R_e := hide (R_e.out.then_ hb); replace R_m0 := hide (R_m0.out.then_ hb); replace R_m1 := hide (R_m1.out.then_ hb); replace R_f := hide (R_f.out.then_ hb); have U16 : Below w4.heap.size w4 w13 := Below.then_ U15 hb; replace B := hide (Below.then_ B.out hb); clear hb; have tok11 : True := trivial; clear _t tok10)))
  clear tok11
  go_wp2_with fail
  have hd := Below.drw_ w13
  replace R_a0 := hide (R_a0.out.then_ hd)
  replace R_a1 := hide (R_a1.out.then_ hd)
  replace R_b0 := hide (R_b0.out.then_ hd)
  replace R_b1 := hide (R_b1.out.then_ hd)
  replace R_r := hide (R_r.out.then_ hd)
  replace R_w := hide (R_w.out.then_ hd)
  replace R_s := hide (R_s.out.then_ hd)
  replace R_p0 := hide (R_p0.out.then_ hd)
  replace R_p1 := hide (R_p1.out.then_ hd)
  replace R_e := hide (R_e.out.then_ hd)
  replace R_m0 := hide (R_m0.out.then_ hd)
  replace R_m1 := hide (R_m1.out.then_ hd)
  replace R_f := hide (R_f.out.then_ hd)
  have U17 : Below w4.heap.size w4 (w13.drew) := Below.then_ U16 hd
  replace B := hide (Below.then_ B.out hd)
  clear hd
  have tok12 : True := trivial
  go_region_held3 (fun w' => Below w4.heap.size w4 w') (assumption)
    (first
      | (go_at_call 15; (have _t := tok12; (with_reducible refine (scale_any (L := 1048576) (by omega) (Rq.le (M := 1048576) R_a0.out (by omega)) (Rq.le (M := 1048576) R_a1.out (by omega)) (Rq.le (M := 1048576) R_r.out (by omega)) (Nat.le_refl _) hsl.out hsh.out).mono ?_); rintro e w14 ⟨x_t0, x_t1, rfl, R_t0, R_t1, hb⟩; replace R_a0 := hide (R_a0.out.then_ hb); replace R_a1 := hide (R_a1.out.then_ hb); replace R_b0 := hide (R_b0.out.then_ hb); replace R_b1 := hide (R_b1.out.then_ hb); replace R_r := hide (R_r.out.then_ hb); replace R_w := hide (R_w.out.then_ hb); replace R_s := hide (R_s.out.then_ hb); replace R_p0 := hide (R_p0.out.then_ hb); replace R_p1 := hide (R_p1.out.then_ hb); replace R_e := hide (R_e.out.then_ hb); replace R_m0 := hide (R_m0.out.then_ hb); replace R_m1 := hide (R_m1.out.then_ hb); replace R_f := hide (R_f.out.then_ hb); have U18 : Below w4.heap.size w4 w14 := Below.then_ U17 hb; replace B := hide (Below.then_ B.out hb); replace R_t0 := hide R_t0; replace R_t1 := hide R_t1; clear hb; have tok13 : True := trivial; clear _t tok12))
      | (go_at_call 22; (have _t := tok13; (with_reducible refine (width_any (L := 2097154) (by omega) (Rq.le (M := 2097154) (Nq.rq R_t0.out) (by omega)) (Rq.le (M := 2097154) (Nq.rq R_t1.out) (by omega)) (Nat.le_refl _) ws.out).mono ?_); rintro e w15 ⟨x_g, rfl, R_g, hb⟩; replace R_a0 := hide (R_a0.out.then_ hb); replace R_a1 := hide (R_a1.out.then_ hb); replace R_b0 := hide (R_b0.out.then_ hb); replace R_b1 := hide (R_b1.out.then_ hb); replace R_r := hide (R_r.out.then_ hb); replace R_w := hide (R_w.out.then_ hb); replace R_s := hide (R_s.out.then_ hb); replace R_p0 := hide (R_p0.out.then_ hb); replace R_p1 := hide (R_p1.out.then_ hb); replace R_e := hide (R_e.out.then_ hb); replace R_m0 := hide (R_m0.out.then_ hb); replace R_m1 := hide (R_m1.out.then_ hb); replace R_f := hide (R_f.out.then_ hb); replace R_t0 := hide (R_t0.out.then_ hb); replace R_t1 := hide (R_t1.out.then_ hb); have U19 : Below w4.heap.size w4 w15 := Below.then_ U18 hb; replace B := hide (Below.then_ B.out hb); replace R_g := hide R_g; clear hb; have tok14 : True := trivial; clear _t tok13))
      | (go_at_call 26; (have _t := tok14; (with_reducible refine (abs_q R_r.out (by omega) (Nat.le_refl _) har.out).mono ?_); rintro e w16 ⟨x_ar, rfl, R_ar, hb⟩; replace R_a0 := hide (R_a0.out.then_ hb); replace R_a1 := hide (R_a1.out.then_ hb); replace R_b0 := hide (R_b0.out.then_ hb); replace R_b1 := hide (R_b1.out.then_ hb); replace R_r := hide (R_r.out.then_ hb); replace R_w := hide (R_w.out.then_ hb); replace R_s := hide (R_s.out.then_ hb); replace R_p0 := hide (R_p0.out.then_ hb); replace R_p1 := hide (R_p1.out.then_ hb); replace R_e := hide (R_e.out.then_ hb); replace R_m0 := hide (R_m0.out.then_ hb); replace R_m1 := hide (R_m1.out.then_ hb); replace R_f := hide (R_f.out.then_ hb); replace R_t0 := hide (R_t0.out.then_ hb); replace R_t1 := hide (R_t1.out.then_ hb); replace R_g := hide (R_g.out.then_ hb); have U20 : Below w4.heap.size w4 w16 := Below.then_ U19 hb; replace B := hide (Below.then_ B.out hb); replace R_ar := hide R_ar; clear hb; have tok15 : True := trivial; clear _t tok14))
      | (go_at_call 14; (have _t := tok15; (with_reducible refine (mul_q (Nq.rq R_w.out) (by omega) (Nq.rq R_ar.out) (by omega) (Nat.le_refl _) ht.out).mono ?_); rintro e w17 ⟨x_u, rfl, R_u, hb⟩; replace R_a0 := hide (R_a0.out.then_ hb); replace R_a1 := hide (R_a1.out.then_ hb); replace R_b0 := hide (R_b0.out.then_ hb); replace R_b1 := hide (R_b1.out.then_ hb); replace R_r := hide (R_r.out.then_ hb); replace R_w := hide (R_w.out.then_ hb); replace R_s := hide (R_s.out.then_ hb); replace R_p0 := hide (R_p0.out.then_ hb); replace R_p1 := hide (R_p1.out.then_ hb); replace R_e := hide (R_e.out.then_ hb); replace R_m0 := hide (R_m0.out.then_ hb); replace R_m1 := hide (R_m1.out.then_ hb); replace R_f := hide (R_f.out.then_ hb); replace R_t0 := hide (R_t0.out.then_ hb); replace R_t1 := hide (R_t1.out.then_ hb); replace R_g := hide (R_g.out.then_ hb); replace R_ar := hide (R_ar.out.then_ hb); have U21 : Below w4.heap.size w4 w17 := Below.then_ U20 hb; replace B := hide (Below.then_ B.out hb); replace R_u := hide R_u; clear hb; have tok16 : True := trivial; clear _t tok15))
      | (go_at_call 25; (have _t := tok16; (with_reducible refine (equal_q R_g.out R_u.out (Nat.le_refl _) (decide_eq_true rfl)).mono ?_); rintro e w18 ⟨rfl, hb⟩; replace R_a0 := hide (R_a0.out.then_ hb); replace R_a1 := hide (R_a1.out.then_ hb); replace R_b0 := hide (R_b0.out.then_ hb); replace R_b1 := hide (R_b1.out.then_ hb); replace R_r := hide (R_r.out.then_ hb); replace R_w := hide (R_w.out.then_ hb); replace R_s := hide (R_s.out.then_ hb); replace R_p0 := hide (R_p0.out.then_ hb); replace R_p1 := hide (R_p1.out.then_ hb); replace R_e := hide (R_e.out.then_ hb); replace R_m0 := hide (R_m0.out.then_ hb); replace R_m1 := hide (R_m1.out.then_ hb); replace R_f := hide (R_f.out.then_ hb); replace R_t0 := hide (R_t0.out.then_ hb); replace R_t1 := hide (R_t1.out.then_ hb); replace R_g := hide (R_g.out.then_ hb); replace R_ar := hide (R_ar.out.then_ hb); replace R_u := hide (R_u.out.then_ hb); have U22 : Below w4.heap.size w4 w18 := Below.then_ U21 hb; replace B := hide (Below.then_ B.out hb); clear hb; have tok17 : True := trivial; clear _t tok16))
      | (go_at_call 16; (have _t := tok17; (with_reducible refine (awake_s).mono ?_); rintro e w19 ⟨rfl, hb⟩; replace R_a0 := hide (R_a0.out.then_ hb); replace R_a1 := hide (R_a1.out.then_ hb); replace R_b0 := hide (R_b0.out.then_ hb); replace R_b1 := hide (R_b1.out.then_ hb); replace R_r := hide (R_r.out.then_ hb); replace R_w := hide (R_w.out.then_ hb); replace R_s := hide (R_s.out.then_ hb); replace R_p0 := hide (R_p0.out.then_ hb); replace R_p1 := hide (R_p1.out.then_ hb); replace R_e := hide (R_e.out.then_ hb); replace R_m0 := hide (R_m0.out.then_ hb); replace R_m1 := hide (R_m1.out.then_ hb); replace R_f := hide (R_f.out.then_ hb); replace R_t0 := hide (R_t0.out.then_ hb); replace R_t1 := hide (R_t1.out.then_ hb); replace R_g := hide (R_g.out.then_ hb); replace R_ar := hide (R_ar.out.then_ hb); replace R_u := hide (R_u.out.then_ hb); have U23 : Below w4.heap.size w4 w19 := Below.then_ U22 hb; replace B := hide (Below.then_ B.out hb); clear hb; have tok18 : True := trivial; clear _t tok17)))
  clear tok18
  go_wp2
  go_ret
  exact ⟨rfl, B.out⟩

end Go.Proofs.Ytogafnfpncbgiaa
