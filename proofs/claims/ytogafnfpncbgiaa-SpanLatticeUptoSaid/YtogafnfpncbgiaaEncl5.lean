/-
  SpanEncloses.
-/
import Derived.Test.YtogafnfpncbgiaaLand5
namespace Go.Proofs.Ytogafnfpncbgiaa
open Go.RowKit

/-- what the block of an array of two bytes reads as -/
def BoxU (W : World) (g : Nat) (v0 v1 : Value) : Prop := W.heap[g]? = some (.cells #[v0, v1] 30 (0, 0))
theorem BoxU.lt_size {W : World} {g : Nat} {v0 v1 : Value} (h : BoxU W g v0 v1) : g < W.heap.size := (Array.getElem?_eq_some_iff.1 h).1
theorem BoxU.at0 {W : World} {g B : Nat} {v0 v1 : Value} (h : BoxU W g v0 v1) (hB : g < B) (_hB' : B ≤ W.heap.size) : ∀ w', Below B W w' → w'.cell? ⟨g, 0, none⟩ = some v0 := fun w' hb => by
  rw [cell_of_row w' g 0 _ _ _ ((hb.block g hB).trans h)]; rfl
theorem BoxU.at1 {W : World} {g B : Nat} {v0 v1 : Value} (h : BoxU W g v0 v1) (hB : g < B) (_hB' : B ≤ W.heap.size) : ∀ w', Below B W w' → w'.cell? ⟨g, 1, none⟩ = some v1 := fun w' hb => by
  rw [cell_of_row w' g 1 _ _ _ ((hb.block g hB).trans h)]; rfl
theorem BoxU.lt {W : World} {g B : Nat} {v0 v1 : Value} (_h : BoxU W g v0 v1) (hB : g < B) (hB' : B ≤ W.heap.size) : ∀ w', Below B W w' → g < w'.heap.size := fun _ hb => Nat.lt_of_lt_of_le hB (Nat.le_trans hB' hb.size)
theorem BoxU.new (w : World) (v0 v1 : Value) {g : Nat} (hg : g = w.heap.size) : BoxU (w.alloc (.cells #[v0, v1] 30)) g v0 v1 := heap_alloc_at _ _ hg
theorem BoxU.keep {W W' : World} {g : Nat} {v0 v1 : Value} (h : BoxU W g v0 v1) (hb : Below W.heap.size W W') : BoxU W' g v0 v1 := (hb.block g h.lt_size).trans h
theorem BoxU.al {W : World} {g : Nat} {v0 v1 : Value} (h : BoxU W g v0 v1) (o : Obj) : BoxU (W.alloc o) g v0 v1 := h.keep ((Below.refl _ _).alloc (Nat.le_refl _) o)

theorem rhas_of {p q r : Rat} (h1 : rlo p q ≤ r) (h2 : r ≤ rhi p q) : decide (rhas p q r) = true := decide_eq_true ⟨h1, h2⟩
/-- a share of the way -/
theorem share_in {l h s x : Rat} (hlh : l ≤ h) (h0 : 0 ≤ s) (h1 : s ≤ 1) (hx : l + s * (h - l) = x) : l ≤ x ∧ x ≤ h := by
  have a : 0 ≤ h - l := by grind
  have b := Rat.mul_nonneg h0 a
  have c := Rat.mul_nonneg (show 0 ≤ 1 - s by grind) a
  constructor <;> grind
theorem line {p q t : Rat} (c : Rat) (h1 : rlo p q ≤ t) (h2 : t ≤ rhi p q) : rlo (p * c) (q * c) ≤ t * c ∧ t * c ≤ rhi (p * c) (q * c) := by
  by_cases h : q < p
  · rw [rlo_of_lt h] at h1
    rw [rhi_of_lt h] at h2
    by_cases hc : 0 ≤ c
    · have a := Rat.mul_nonneg (show 0 ≤ t - q by grind) hc
      have b := Rat.mul_nonneg (show 0 ≤ p - t by grind) hc
      have e : q * c ≤ p * c := by grind
      rw [rlo_comm, rhi_comm, rlo_of_le e, rhi_of_le e]
      constructor <;> grind
    · have a := Rat.mul_nonneg (show 0 ≤ t - q by grind) (show 0 ≤ -c by grind)
      have b := Rat.mul_nonneg (show 0 ≤ p - t by grind) (show 0 ≤ -c by grind)
      have e : p * c ≤ q * c := by grind
      rw [rlo_of_le e, rhi_of_le e]
      constructor <;> grind
  · rw [rlo_of_le (Rat.not_lt.1 h)] at h1
    rw [rhi_of_le (Rat.not_lt.1 h)] at h2
    by_cases hc : 0 ≤ c
    · have a := Rat.mul_nonneg (show 0 ≤ t - p by grind) hc
      have b := Rat.mul_nonneg (show 0 ≤ q - t by grind) hc
      have e : p * c ≤ q * c := by grind
      rw [rlo_of_le e, rhi_of_le e]
      constructor <;> grind
    · have a := Rat.mul_nonneg (show 0 ≤ t - p by grind) (show 0 ≤ -c by grind)
      have b := Rat.mul_nonneg (show 0 ≤ q - t by grind) (show 0 ≤ -c by grind)
      have e : q * c ≤ p * c := by grind
      rw [rlo_comm, rhi_comm, rlo_of_le e, rhi_of_le e]
      constructor <;> grind
theorem rlo_le_l (a b : Rat) : rlo a b ≤ a := by unfold rlo; split <;> grind
theorem rlo_le_r (a b : Rat) : rlo a b ≤ b := by unfold rlo; split <;> grind
theorem le_rhi_l (a b : Rat) : a ≤ rhi a b := by unfold rhi; split <;> grind
theorem le_rhi_r (a b : Rat) : b ≤ rhi a b := by unfold rhi; split <;> grind
theorem le_rlo {a b c : Rat} (h1 : c ≤ a) (h2 : c ≤ b) : c ≤ rlo a b := by unfold rlo; split <;> assumption
theorem rhi_le {a b c : Rat} (h1 : a ≤ c) (h2 : b ≤ c) : rhi a b ≤ c := by unfold rhi; split <;> assumption
theorem box_in {p q p' q' x y : Rat} (h1 : rlo p q ≤ x) (h2 : x ≤ rhi p q) (h3 : rlo p' q' ≤ y) (h4 : y ≤ rhi p' q') : mn4 (p * p') (p * q') (q * p') (q * q') ≤ x * y ∧ x * y ≤ mx4 (p * p') (p * q') (q * p') (q * q') := by
  obtain ⟨a1, a2⟩ := line x h3 h4
  obtain ⟨b1, b2⟩ := line p' h1 h2
  obtain ⟨c1, c2⟩ := line q' h1 h2
  rw [← mn4_mid, ← mx4_mid, Rat.mul_comm x y]
  rw [Rat.mul_comm p' x, Rat.mul_comm q' x] at a1 a2
  constructor
  · refine Rat.le_trans (le_rlo ?_ ?_) a1
    · exact Rat.le_trans (rlo_le_l _ _) b1
    · exact Rat.le_trans (rlo_le_r _ _) c1
  · refine Rat.le_trans a2 (rhi_le ?_ ?_)
    · exact Rat.le_trans b2 (le_rhi_l _ _)
    · exact Rat.le_trans c2 (le_rhi_r _ _)
theorem share_ok {n : Nat} (hn : n < 256) {s : Rat} (hs : Rat.divInt (n : Int) 255 = s) : 0 ≤ s ∧ s ≤ 1 := by
  have e : (255 : Rat) * s = ((n : Int) : Rat) := by
    rw [← hs, Rat.divInt_eq_div]
    show (255 : Rat) * (((n : Int) : Rat) / (255 : Rat)) = _
    grind
  have h1 : ((0 : Int) : Rat) ≤ ((n : Int) : Rat) := Rat.intCast_le_intCast.2 (by omega)
  have h2 : ((n : Int) : Rat) ≤ ((255 : Int) : Rat) := Rat.intCast_le_intCast.2 (by omega)
  rw [show ((0 : Int) : Rat) = 0 from rfl] at h1
  rw [show ((255 : Int) : Rat) = 255 from rfl] at h2
  constructor <;> grind

set_option maxHeartbeats 4000000 in
theorem enclose_walk {w : World} {Bd : Nat}  {a0 : Rc} {q_a0 : Rat} {a1 : Rc} {q_a1 : Rat} {b0 : Rc} {q_b0 : Rat} {b1 : Rc} {q_b1 : Rat} {r : Rc} {q_r : Rat} {n0 n1 : Nat} (h_a0 : Rq w Bd 1048576 a0 q_a0) (h_a1 : Rq w Bd 1048576 a1 q_a1) (h_b0 : Rq w Bd 1048576 b0 q_b0) (h_b1 : Rq w Bd 1048576 b1 q_b1) (h_r : Rq w Bd 1048576 r q_r) (hB : Bd ≤ w.heap.size) (hn0 : n0 < 256) (hn1 : n1 < 256) :
    Calls Try.prog 3 #[.agg #[.bool a0.s, .slice a0.A a0.n a0.c, .slice a0.B a0.m a0.d, .bool a1.s, .slice a1.A a1.n a1.c, .slice a1.B a1.m a1.d], .agg #[.bool b0.s, .slice b0.A b0.n b0.c, .slice b0.B b0.m b0.d, .bool b1.s, .slice b1.A b1.n b1.c, .slice b1.B b1.m b1.d], .agg #[.bool r.s, .slice r.A r.n r.c, .slice r.B r.m r.d], .agg #[.int .u8 (n0 : Int), .int .u8 (n1 : Int)]] w (RetB w (.bool true)) := by
  obtain ⟨la, hla⟩ : ∃ l, rlo q_a0 q_a1 = l := ⟨_, rfl⟩
  obtain ⟨ha, hha⟩ : ∃ h, rhi q_a0 q_a1 = h := ⟨_, rfl⟩
  have oa : la ≤ ha := by rw [← hla, ← hha]; exact rlo_le_rhi _ _
  obtain ⟨lb, hlb⟩ : ∃ l, rlo q_b0 q_b1 = l := ⟨_, rfl⟩
  obtain ⟨hb, hhb⟩ : ∃ h, rhi q_b0 q_b1 = h := ⟨_, rfl⟩
  have ob : lb ≤ hb := by rw [← hlb, ← hhb]; exact rlo_le_rhi _ _
  obtain ⟨sa, hsa⟩ : ∃ s, Rat.divInt (n0 : Int) 255 = s := ⟨_, rfl⟩
  obtain ⟨x, hx⟩ : ∃ x, la + sa * (ha - la) = x := ⟨_, rfl⟩
  obtain ⟨ia0, ia1⟩ := share_ok hn0 hsa
  obtain ⟨jx0, jx1⟩ := share_in oa ia0 ia1 hx
  have inx : decide (rhas q_a0 q_a1 x) = true := rhas_of (by rw [hla]; exact jx0) (by rw [hha]; exact jx1)
  obtain ⟨sb, hsb⟩ : ∃ s, Rat.divInt (n1 : Int) 255 = s := ⟨_, rfl⟩
  obtain ⟨y, hy⟩ : ∃ x, lb + sb * (hb - lb) = x := ⟨_, rfl⟩
  obtain ⟨ib0, ib1⟩ := share_ok hn1 hsb
  obtain ⟨jy0, jy1⟩ := share_in ob ib0 ib1 hy
  have iny : decide (rhas q_b0 q_b1 y) = true := rhas_of (by rw [hlb]; exact jy0) (by rw [hhb]; exact jy1)
  obtain ⟨pl, hpl⟩ : ∃ d, la + lb = d := ⟨_, rfl⟩
  obtain ⟨ph, hph⟩ : ∃ d, ha + hb = d := ⟨_, rfl⟩
  have epl : rlo q_a0 q_a1 + rlo q_b0 q_b1 = pl := by rw [hla, hlb]; exact hpl
  have eph : rhi q_a0 q_a1 + rhi q_b0 q_b1 = ph := by rw [hha, hhb]; exact hph
  obtain ⟨pv, hpv⟩ : ∃ d, x + y = d := ⟨_, rfl⟩
  have inp : decide (rhas pl ph pv) = true := rhas_of (Rat.le_trans (rlo_le_l _ _) (by grind)) (Rat.le_trans (by grind) (le_rhi_r _ _))
  obtain ⟨ml, hml⟩ : ∃ d, la - hb = d := ⟨_, rfl⟩
  obtain ⟨mh, hmh⟩ : ∃ d, ha - lb = d := ⟨_, rfl⟩
  have eml : rlo q_a0 q_a1 - rhi q_b0 q_b1 = ml := by rw [hla, hhb]; exact hml
  have emh : rhi q_a0 q_a1 - rlo q_b0 q_b1 = mh := by rw [hha, hlb]; exact hmh
  obtain ⟨mv, hmv⟩ : ∃ d, x - y = d := ⟨_, rfl⟩
  have inm : decide (rhas ml mh mv) = true := rhas_of (Rat.le_trans (rlo_le_l _ _) (by grind)) (Rat.le_trans (by grind) (le_rhi_r _ _))
  obtain ⟨tl, htl⟩ : ∃ d, mn4 (q_a0 * q_b0) (q_a0 * q_b1) (q_a1 * q_b0) (q_a1 * q_b1) = d := ⟨_, rfl⟩
  obtain ⟨th, hth⟩ : ∃ d, mx4 (q_a0 * q_b0) (q_a0 * q_b1) (q_a1 * q_b0) (q_a1 * q_b1) = d := ⟨_, rfl⟩
  obtain ⟨tv, htv⟩ : ∃ d, x * y = d := ⟨_, rfl⟩
  have int : decide (rhas tl th tv) = true := by
    obtain ⟨a1, a2⟩ := box_in (p := q_a0) (q := q_a1) (p' := q_b0) (q' := q_b1) (x := x) (y := y) (by rw [hla]; exact jx0) (by rw [hha]; exact jx1) (by rw [hlb]; exact jy0) (by rw [hhb]; exact jy1)
    rw [htl, htv] at a1
    rw [hth, htv] at a2
    exact rhas_of (Rat.le_trans (rlo_le_l _ _) a1) (Rat.le_trans a2 (le_rhi_r _ _))
  obtain ⟨sl, hsl⟩ : ∃ d, rlo (q_a0 * q_r) (q_a1 * q_r) = d := ⟨_, rfl⟩
  obtain ⟨sh, hsh⟩ : ∃ d, rhi (q_a0 * q_r) (q_a1 * q_r) = d := ⟨_, rfl⟩
  obtain ⟨sv, hsv⟩ : ∃ d, q_r * x = d := ⟨_, rfl⟩
  have ins : decide (rhas sl sh sv) = true := by
    obtain ⟨a1, a2⟩ := line (p := q_a0) (q := q_a1) (t := x) q_r (by rw [hla]; exact jx0) (by rw [hha]; exact jx1)
    rw [hsl, Rat.mul_comm, hsv] at a1
    rw [hsh, Rat.mul_comm x, hsv] at a2
    exact rhas_of (Rat.le_trans (rlo_le_l _ _) a1) (Rat.le_trans a2 (le_rhi_r _ _))
  clear oa ob ia0 ia1 ib0 ib1 jx0 jx1 jy0 jy1 hpl hph hml hmh
  replace hla := hide hla
  replace hha := hide hha
  replace hlb := hide hlb
  replace hhb := hide hhb
  replace hsa := hide hsa
  replace hsb := hide hsb
  replace hx := hide hx
  replace hy := hide hy
  replace inx := hide inx
  replace iny := hide iny
  replace epl := hide epl
  replace eph := hide eph
  replace eml := hide eml
  replace emh := hide emh
  replace hpv := hide hpv
  replace hmv := hide hmv
  replace inp := hide inp
  replace inm := hide inm
  replace htl := hide htl
  replace hth := hide hth
  replace htv := hide htv
  replace int := hide int
  replace hsl := hide hsl
  replace hsh := hide hsh
  replace hsv := hide hsv
  replace ins := hide ins
  replace hn0 := hide hn0
  replace hn1 := hide hn1
  obtain ⟨W, hW⟩ : ∃ W, W = ((((w.alloc (.cells #[.bool a0.s, .slice a0.A a0.n a0.c, .slice a0.B a0.m a0.d, .bool a1.s, .slice a1.A a1.n a1.c, .slice a1.B a1.m a1.d] 29)).alloc (.cells #[.bool b0.s, .slice b0.A b0.n b0.c, .slice b0.B b0.m b0.d, .bool b1.s, .slice b1.A b1.n b1.c, .slice b1.B b1.m b1.d] 29)).alloc (.cells #[.bool r.s, .slice r.A r.n r.c, .slice r.B r.m r.d] 27)).alloc (.cells #[.int .u8 (n0 : Int), .int .u8 (n1 : Int)] 30)) := ⟨_, rfl⟩
  have b_a : Box6 W (w.heap.size) (.bool a0.s) (.slice a0.A a0.n a0.c) (.slice a0.B a0.m a0.d) (.bool a1.s) (.slice a1.A a1.n a1.c) (.slice a1.B a1.m a1.d) := by rw [hW]; exact ((((Box6.new w _ _ _ _ _ _ rfl).al _).al _).al _)
  have b_b : Box6 W (w.heap.size + 1) (.bool b0.s) (.slice b0.A b0.n b0.c) (.slice b0.B b0.m b0.d) (.bool b1.s) (.slice b1.A b1.n b1.c) (.slice b1.B b1.m b1.d) := by rw [hW]; exact (((Box6.new _ _ _ _ _ _ _ (by simp)).al _).al _)
  have b_r : Box3 W (w.heap.size + 1 + 1) (.bool r.s) (.slice r.A r.n r.c) (.slice r.B r.m r.d) := by rw [hW]; exact ((Box3.new _ _ _ _ (by simp)).al _)
  have b_n : BoxU W (w.heap.size + 1 + 1 + 1) (.int .u8 (n0 : Int)) (.int .u8 (n1 : Int)) := by rw [hW]; exact (BoxU.new _ _ _ (by simp))
  have hwW : Below w.heap.size w W := by rw [hW]; exact (((((Below.refl _ _).alloc (Nat.le_refl _) _).alloc (by simp) _).alloc (by simp; omega) _).alloc (by simp; omega) _)
  have R_a0 := hide (h_a0.upto hwW hB)
  clear h_a0
  have R_a1 := hide (h_a1.upto hwW hB)
  clear h_a1
  have R_b0 := hide (h_b0.upto hwW hB)
  clear h_b0
  have R_b1 := hide (h_b1.upto hwW hB)
  clear h_b1
  have R_r := hide (h_r.upto hwW hB)
  clear h_r
  have B := hide hwW
  clear hwW
  clear hB
  have U0 : Below W.heap.size W W := Below.refl _ _
  have c_a0 := b_a.at0 b_a.lt_size (Nat.le_refl _)
  have c_a1 := b_a.at1 b_a.lt_size (Nat.le_refl _)
  have c_a2 := b_a.at2 b_a.lt_size (Nat.le_refl _)
  have c_a3 := b_a.at3 b_a.lt_size (Nat.le_refl _)
  have c_a4 := b_a.at4 b_a.lt_size (Nat.le_refl _)
  have c_a5 := b_a.at5 b_a.lt_size (Nat.le_refl _)
  replace b_a := hide b_a
  have c_b0 := b_b.at0 b_b.lt_size (Nat.le_refl _)
  have c_b1 := b_b.at1 b_b.lt_size (Nat.le_refl _)
  have c_b2 := b_b.at2 b_b.lt_size (Nat.le_refl _)
  have c_b3 := b_b.at3 b_b.lt_size (Nat.le_refl _)
  have c_b4 := b_b.at4 b_b.lt_size (Nat.le_refl _)
  have c_b5 := b_b.at5 b_b.lt_size (Nat.le_refl _)
  replace b_b := hide b_b
  have c_r0 := b_r.at0 b_r.lt_size (Nat.le_refl _)
  have c_r1 := b_r.at1 b_r.lt_size (Nat.le_refl _)
  have c_r2 := b_r.at2 b_r.lt_size (Nat.le_refl _)
  replace b_r := hide b_r
  have c_n0 := b_n.at0 b_n.lt_size (Nat.le_refl _)
  have c_n1 := b_n.at1 b_n.lt_size (Nat.le_refl _)
  replace b_n := hide b_n
  go_enter Try.func3, Try.ntmps3
  go_wp2_with fail
  rw [← hW]
  clear hW
  refine (between_any (L := 1048576) (by omega) (Rq.le (M := 1048576) R_a0.out (by omega)) (Rq.le (M := 1048576) R_a1.out (by omega)) (Nat.le_refl _) hn0.out hla.out hha.out hsa.out hx.out).mono ?_
  rintro e w1 ⟨x_x, rfl, R_x, hb⟩
  replace R_a0 := hide (R_a0.out.then_ hb)
  replace R_a1 := hide (R_a1.out.then_ hb)
  replace R_b0 := hide (R_b0.out.then_ hb)
  replace R_b1 := hide (R_b1.out.then_ hb)
  replace R_r := hide (R_r.out.then_ hb)
  have U1 : Below W.heap.size W w1 := Below.then_ U0 hb
  replace B := hide (Below.then_ B.out hb)
  replace R_x := hide R_x
  clear hb
  have hbx : Below w1.heap.size w1 (w1.alloc (.cells #[.bool x_x.s, .slice x_x.A x_x.n x_x.c, .slice x_x.B x_x.m x_x.d] 27)) := ((Below.refl _ _).alloc (Nat.le_refl _) _)
  have Ux := Below.then_ U1 hbx
  go_wp2_with fail
  obtain ⟨V1, hV⟩ : ∃ V, V = (w1.alloc (.cells #[.bool x_x.s, .slice x_x.A x_x.n x_x.c, .slice x_x.B x_x.m x_x.d] 27)) := ⟨_, rfl⟩
  obtain ⟨g_x, hg_x⟩ : ∃ g, g = w1.heap.size := ⟨_, rfl⟩
  rw [← hV]
  rw [← hV] at hbx Ux
  rw [← hg_x]
  have b_x : Box3 V1 g_x (.bool x_x.s) (.slice x_x.A x_x.n x_x.c) (.slice x_x.B x_x.m x_x.d) := by rw [hV]; exact (Box3.new _ _ _ _ hg_x)
  clear hV
  have ne_a_x : w.heap.size ≠ g_x := by have := (b_a.out.lt b_a.out.lt_size (Nat.le_refl _)) _ U1; omega
  replace ne_a_x := hide ne_a_x
  have ne_b_x : w.heap.size + 1 ≠ g_x := by have := (b_b.out.lt b_b.out.lt_size (Nat.le_refl _)) _ U1; omega
  replace ne_b_x := hide ne_b_x
  have ne_r_x : w.heap.size + 1 + 1 ≠ g_x := by have := (b_r.out.lt b_r.out.lt_size (Nat.le_refl _)) _ U1; omega
  replace ne_r_x := hide ne_r_x
  have ne_n_x : w.heap.size + 1 + 1 + 1 ≠ g_x := by have := (b_n.out.lt b_n.out.lt_size (Nat.le_refl _)) _ U1; omega
  replace ne_n_x := hide ne_n_x
  have ge_x : w.heap.size ≤ g_x := by have := B.out.size; omega
  replace ge_x := hide ge_x
  clear hg_x
  replace R_a0 := hide (R_a0.out.then_ hbx)
  replace R_a1 := hide (R_a1.out.then_ hbx)
  replace R_b0 := hide (R_b0.out.then_ hbx)
  replace R_b1 := hide (R_b1.out.then_ hbx)
  replace R_r := hide (R_r.out.then_ hbx)
  replace R_x := hide (R_x.out.then_ hbx)
  have U2 : Below W.heap.size W V1 := Below.then_ U1 hbx
  replace B := hide (Below.then_ B.out hbx)
  clear hbx
  replace b_a := hide (Box6.keep b_a.out U2)
  clear c_a0 c_a1 c_a2 c_a3 c_a4 c_a5
  replace b_b := hide (Box6.keep b_b.out U2)
  clear c_b0 c_b1 c_b2 c_b3 c_b4 c_b5
  replace b_r := hide (Box3.keep b_r.out U2)
  clear c_r0 c_r1 c_r2
  replace b_n := hide (BoxU.keep b_n.out U2)
  clear c_n0 c_n1
  replace b_x := hide b_x
  have U3 : Below V1.heap.size V1 V1 := Below.refl _ _
  have c_a0 := b_a.out.at0 b_a.out.lt_size (Nat.le_refl _)
  have c_a1 := b_a.out.at1 b_a.out.lt_size (Nat.le_refl _)
  have c_a2 := b_a.out.at2 b_a.out.lt_size (Nat.le_refl _)
  have c_a3 := b_a.out.at3 b_a.out.lt_size (Nat.le_refl _)
  have c_a4 := b_a.out.at4 b_a.out.lt_size (Nat.le_refl _)
  have c_a5 := b_a.out.at5 b_a.out.lt_size (Nat.le_refl _)
  have c_b0 := b_b.out.at0 b_b.out.lt_size (Nat.le_refl _)
  have c_b1 := b_b.out.at1 b_b.out.lt_size (Nat.le_refl _)
  have c_b2 := b_b.out.at2 b_b.out.lt_size (Nat.le_refl _)
  have c_b3 := b_b.out.at3 b_b.out.lt_size (Nat.le_refl _)
  have c_b4 := b_b.out.at4 b_b.out.lt_size (Nat.le_refl _)
  have c_b5 := b_b.out.at5 b_b.out.lt_size (Nat.le_refl _)
  have c_r0 := b_r.out.at0 b_r.out.lt_size (Nat.le_refl _)
  have c_r1 := b_r.out.at1 b_r.out.lt_size (Nat.le_refl _)
  have c_r2 := b_r.out.at2 b_r.out.lt_size (Nat.le_refl _)
  have c_n0 := b_n.out.at0 b_n.out.lt_size (Nat.le_refl _)
  have c_n1 := b_n.out.at1 b_n.out.lt_size (Nat.le_refl _)
  have c_x0 := b_x.out.at0 b_x.out.lt_size (Nat.le_refl _)
  have c_x1 := b_x.out.at1 b_x.out.lt_size (Nat.le_refl _)
  have c_x2 := b_x.out.at2 b_x.out.lt_size (Nat.le_refl _)
  refine (between_any (L := 1048576) (by omega) (Rq.le (M := 1048576) R_b0.out (by omega)) (Rq.le (M := 1048576) R_b1.out (by omega)) (Nat.le_refl _) hn1.out hlb.out hhb.out hsb.out hy.out).mono ?_
  rintro e w2 ⟨x_y, rfl, R_y, hb⟩
  replace R_a0 := hide (R_a0.out.then_ hb)
  replace R_a1 := hide (R_a1.out.then_ hb)
  replace R_b0 := hide (R_b0.out.then_ hb)
  replace R_b1 := hide (R_b1.out.then_ hb)
  replace R_r := hide (R_r.out.then_ hb)
  replace R_x := hide (R_x.out.then_ hb)
  have U4 : Below V1.heap.size V1 w2 := Below.then_ U3 hb
  replace B := hide (Below.then_ B.out hb)
  replace R_y := hide R_y
  clear hb
  have hbx : Below w2.heap.size w2 (w2.alloc (.cells #[.bool x_y.s, .slice x_y.A x_y.n x_y.c, .slice x_y.B x_y.m x_y.d] 27)) := ((Below.refl _ _).alloc (Nat.le_refl _) _)
  have Ux := Below.then_ U4 hbx
  go_wp2_with fail
  obtain ⟨V4, hV⟩ : ∃ V, V = (w2.alloc (.cells #[.bool x_y.s, .slice x_y.A x_y.n x_y.c, .slice x_y.B x_y.m x_y.d] 27)) := ⟨_, rfl⟩
  obtain ⟨g_y, hg_y⟩ : ∃ g, g = w2.heap.size := ⟨_, rfl⟩
  rw [← hV]
  rw [← hV] at hbx Ux
  rw [← hg_y]
  have b_y : Box3 V4 g_y (.bool x_y.s) (.slice x_y.A x_y.n x_y.c) (.slice x_y.B x_y.m x_y.d) := by rw [hV]; exact (Box3.new _ _ _ _ hg_y)
  clear hV
  have ne_a_y : w.heap.size ≠ g_y := by have := (b_a.out.lt b_a.out.lt_size (Nat.le_refl _)) _ U4; omega
  replace ne_a_y := hide ne_a_y
  have ne_b_y : w.heap.size + 1 ≠ g_y := by have := (b_b.out.lt b_b.out.lt_size (Nat.le_refl _)) _ U4; omega
  replace ne_b_y := hide ne_b_y
  have ne_r_y : w.heap.size + 1 + 1 ≠ g_y := by have := (b_r.out.lt b_r.out.lt_size (Nat.le_refl _)) _ U4; omega
  replace ne_r_y := hide ne_r_y
  have ne_n_y : w.heap.size + 1 + 1 + 1 ≠ g_y := by have := (b_n.out.lt b_n.out.lt_size (Nat.le_refl _)) _ U4; omega
  replace ne_n_y := hide ne_n_y
  have ne_x_y : g_x ≠ g_y := by have := (b_x.out.lt b_x.out.lt_size (Nat.le_refl _)) _ U4; omega
  replace ne_x_y := hide ne_x_y
  have ge_y : w.heap.size ≤ g_y := by have := B.out.size; omega
  replace ge_y := hide ge_y
  clear hg_y
  replace R_a0 := hide (R_a0.out.then_ hbx)
  replace R_a1 := hide (R_a1.out.then_ hbx)
  replace R_b0 := hide (R_b0.out.then_ hbx)
  replace R_b1 := hide (R_b1.out.then_ hbx)
  replace R_r := hide (R_r.out.then_ hbx)
  replace R_x := hide (R_x.out.then_ hbx)
  replace R_y := hide (R_y.out.then_ hbx)
  have U5 : Below V1.heap.size V1 V4 := Below.then_ U4 hbx
  replace B := hide (Below.then_ B.out hbx)
  clear hbx
  replace b_a := hide (Box6.keep b_a.out U5)
  clear c_a0 c_a1 c_a2 c_a3 c_a4 c_a5
  replace b_b := hide (Box6.keep b_b.out U5)
  clear c_b0 c_b1 c_b2 c_b3 c_b4 c_b5
  replace b_r := hide (Box3.keep b_r.out U5)
  clear c_r0 c_r1 c_r2
  replace b_n := hide (BoxU.keep b_n.out U5)
  clear c_n0 c_n1
  replace b_x := hide (Box3.keep b_x.out U5)
  clear c_x0 c_x1 c_x2
  replace b_y := hide b_y
  have U6 : Below V4.heap.size V4 V4 := Below.refl _ _
  have c_a0 := b_a.out.at0 b_a.out.lt_size (Nat.le_refl _)
  have c_a1 := b_a.out.at1 b_a.out.lt_size (Nat.le_refl _)
  have c_a2 := b_a.out.at2 b_a.out.lt_size (Nat.le_refl _)
  have c_a3 := b_a.out.at3 b_a.out.lt_size (Nat.le_refl _)
  have c_a4 := b_a.out.at4 b_a.out.lt_size (Nat.le_refl _)
  have c_a5 := b_a.out.at5 b_a.out.lt_size (Nat.le_refl _)
  have c_b0 := b_b.out.at0 b_b.out.lt_size (Nat.le_refl _)
  have c_b1 := b_b.out.at1 b_b.out.lt_size (Nat.le_refl _)
  have c_b2 := b_b.out.at2 b_b.out.lt_size (Nat.le_refl _)
  have c_b3 := b_b.out.at3 b_b.out.lt_size (Nat.le_refl _)
  have c_b4 := b_b.out.at4 b_b.out.lt_size (Nat.le_refl _)
  have c_b5 := b_b.out.at5 b_b.out.lt_size (Nat.le_refl _)
  have c_r0 := b_r.out.at0 b_r.out.lt_size (Nat.le_refl _)
  have c_r1 := b_r.out.at1 b_r.out.lt_size (Nat.le_refl _)
  have c_r2 := b_r.out.at2 b_r.out.lt_size (Nat.le_refl _)
  have c_n0 := b_n.out.at0 b_n.out.lt_size (Nat.le_refl _)
  have c_n1 := b_n.out.at1 b_n.out.lt_size (Nat.le_refl _)
  have c_x0 := b_x.out.at0 b_x.out.lt_size (Nat.le_refl _)
  have c_x1 := b_x.out.at1 b_x.out.lt_size (Nat.le_refl _)
  have c_x2 := b_x.out.at2 b_x.out.lt_size (Nat.le_refl _)
  have c_y0 := b_y.out.at0 b_y.out.lt_size (Nat.le_refl _)
  have c_y1 := b_y.out.at1 b_y.out.lt_size (Nat.le_refl _)
  have c_y2 := b_y.out.at2 b_y.out.lt_size (Nat.le_refl _)
  refine (has_any (L := 3145748) (by omega) (Rq.le (M := 3145748) R_a0.out (by omega)) (Rq.le (M := 3145748) R_a1.out (by omega)) (Rq.le (M := 3145748) (Nq.rq R_x.out) (by omega)) (Nat.le_refl _) inx.out).mono ?_
  rintro e w3 ⟨rfl, hb⟩
  replace R_a0 := hide (R_a0.out.then_ hb)
  replace R_a1 := hide (R_a1.out.then_ hb)
  replace R_b0 := hide (R_b0.out.then_ hb)
  replace R_b1 := hide (R_b1.out.then_ hb)
  replace R_r := hide (R_r.out.then_ hb)
  replace R_x := hide (R_x.out.then_ hb)
  replace R_y := hide (R_y.out.then_ hb)
  have U7 : Below V4.heap.size V4 w3 := Below.then_ U6 hb
  replace B := hide (Below.then_ B.out hb)
  clear hb
  go_wp2_with fail
  refine (has_any (L := 3145748) (by omega) (Rq.le (M := 3145748) R_b0.out (by omega)) (Rq.le (M := 3145748) R_b1.out (by omega)) (Rq.le (M := 3145748) (Nq.rq R_y.out) (by omega)) (Nat.le_refl _) iny.out).mono ?_
  rintro e w4 ⟨rfl, hb⟩
  replace R_a0 := hide (R_a0.out.then_ hb)
  replace R_a1 := hide (R_a1.out.then_ hb)
  replace R_b0 := hide (R_b0.out.then_ hb)
  replace R_b1 := hide (R_b1.out.then_ hb)
  replace R_r := hide (R_r.out.then_ hb)
  replace R_x := hide (R_x.out.then_ hb)
  replace R_y := hide (R_y.out.then_ hb)
  have U8 : Below V4.heap.size V4 w4 := Below.then_ U7 hb
  replace B := hide (Below.then_ B.out hb)
  clear hb
  go_wp2_with fail
  have hd := Below.drw_ w4
  replace R_a0 := hide (R_a0.out.then_ hd)
  replace R_a1 := hide (R_a1.out.then_ hd)
  replace R_b0 := hide (R_b0.out.then_ hd)
  replace R_b1 := hide (R_b1.out.then_ hd)
  replace R_r := hide (R_r.out.then_ hd)
  replace R_x := hide (R_x.out.then_ hd)
  replace R_y := hide (R_y.out.then_ hd)
  have U9 : Below V4.heap.size V4 (w4.drew) := Below.then_ U8 hd
  replace B := hide (Below.then_ B.out hd)
  clear hd
  have tok1 : True := trivial
  go_region_held3 (fun w' => Below V4.heap.size V4 w') (assumption)
    (first
      | (go_at_call 9; (have _t := tok1; (with_reducible refine (sadd_any (L := 1048576) (by omega) (Rq.le (M := 1048576) R_a0.out (by omega)) (Rq.le (M := 1048576) R_a1.out (by omega)) (Rq.le (M := 1048576) R_b0.out (by omega)) (Rq.le (M := 1048576) R_b1.out (by omega)) (Nat.le_refl _) epl.out eph.out).mono ?_); rintro e w5 ⟨x_p0, x_p1, rfl, R_p0, R_p1, hb⟩; replace R_a0 := hide (R_a0.out.then_ hb); replace R_a1 := hide (R_a1.out.then_ hb); replace R_b0 := hide (R_b0.out.then_ hb); replace R_b1 := hide (R_b1.out.then_ hb); replace R_r := hide (R_r.out.then_ hb); replace R_x := hide (R_x.out.then_ hb); replace R_y := hide (R_y.out.then_ hb); have U10 : Below V4.heap.size V4 w5 := Below.then_ U9 hb; replace B := hide (Below.then_ B.out hb); replace R_p0 := hide R_p0; replace R_p1 := hide R_p1; clear hb; have tok2 : True := trivial; clear _t tok1))
      | (go_at_call 10; (have _t := tok2; (with_reducible refine (add_q (Nq.rq R_x.out) (by omega) (Nq.rq R_y.out) (by omega) (Nat.le_refl _) hpv.out).mono ?_); rintro e w6 ⟨x_pv, rfl, R_pv, hb⟩; replace R_a0 := hide (R_a0.out.then_ hb); replace R_a1 := hide (R_a1.out.then_ hb); replace R_b0 := hide (R_b0.out.then_ hb); replace R_b1 := hide (R_b1.out.then_ hb); replace R_r := hide (R_r.out.then_ hb); replace R_x := hide (R_x.out.then_ hb); replace R_y := hide (R_y.out.then_ hb); replace R_p0 := hide (R_p0.out.then_ hb); replace R_p1 := hide (R_p1.out.then_ hb); have U11 : Below V4.heap.size V4 w6 := Below.then_ U10 hb; replace B := hide (Below.then_ B.out hb); replace R_pv := hide R_pv; clear hb; have tok3 : True := trivial; clear _t tok2))
      | (go_at_call 8; (have _t := tok3; (with_reducible refine (has_any (L := 6291499) (by omega) (Rq.le (M := 6291499) (Nq.rq R_p0.out) (by omega)) (Rq.le (M := 6291499) (Nq.rq R_p1.out) (by omega)) (Rq.le (M := 6291499) (Nq.rq R_pv.out) (by omega)) (Nat.le_refl _) inp.out).mono ?_); rintro e w7 ⟨rfl, hb⟩; replace R_a0 := hide (R_a0.out.then_ hb); replace R_a1 := hide (R_a1.out.then_ hb); replace R_b0 := hide (R_b0.out.then_ hb); replace R_b1 := hide (R_b1.out.then_ hb); replace R_r := hide (R_r.out.then_ hb); replace R_x := hide (R_x.out.then_ hb); replace R_y := hide (R_y.out.then_ hb); replace R_p0 := hide (R_p0.out.then_ hb); replace R_p1 := hide (R_p1.out.then_ hb); replace R_pv := hide (R_pv.out.then_ hb); have U12 : Below V4.heap.size V4 w7 := Below.then_ U11 hb; replace B := hide (Below.then_ B.out hb); clear hb; have tok4 : True := trivial; clear _t tok3; clear R_p0; clear R_p1; clear R_pv))
      | (go_at_call 11; (have _t := tok4; (with_reducible refine (ssub_any (L := 1048576) (by omega) (Rq.le (M := 1048576) R_a0.out (by omega)) (Rq.le (M := 1048576) R_a1.out (by omega)) (Rq.le (M := 1048576) R_b0.out (by omega)) (Rq.le (M := 1048576) R_b1.out (by omega)) (Nat.le_refl _) eml.out emh.out).mono ?_); rintro e w8 ⟨x_m0, x_m1, rfl, R_m0, R_m1, hb⟩; replace R_a0 := hide (R_a0.out.then_ hb); replace R_a1 := hide (R_a1.out.then_ hb); replace R_b0 := hide (R_b0.out.then_ hb); replace R_b1 := hide (R_b1.out.then_ hb); replace R_r := hide (R_r.out.then_ hb); replace R_x := hide (R_x.out.then_ hb); replace R_y := hide (R_y.out.then_ hb); have U13 : Below V4.heap.size V4 w8 := Below.then_ U12 hb; replace B := hide (Below.then_ B.out hb); replace R_m0 := hide R_m0; replace R_m1 := hide R_m1; clear hb; have tok5 : True := trivial; clear _t tok4))
      | (go_at_call 12; (have _t := tok5; (with_reducible refine (sub_q (Nq.rq R_x.out) (by omega) (Nq.rq R_y.out) (by omega) (Nat.le_refl _) hmv.out).mono ?_); rintro e w9 ⟨x_mv, rfl, R_mv, hb⟩; replace R_a0 := hide (R_a0.out.then_ hb); replace R_a1 := hide (R_a1.out.then_ hb); replace R_b0 := hide (R_b0.out.then_ hb); replace R_b1 := hide (R_b1.out.then_ hb); replace R_r := hide (R_r.out.then_ hb); replace R_x := hide (R_x.out.then_ hb); replace R_y := hide (R_y.out.then_ hb); replace R_m0 := hide (R_m0.out.then_ hb); replace R_m1 := hide (R_m1.out.then_ hb); have U14 : Below V4.heap.size V4 w9 := Below.then_ U13 hb; replace B := hide (Below.then_ B.out hb); replace R_mv := hide R_mv; clear hb; have tok6 : True := trivial; clear _t tok5))
      | (go_at_call 8; (have _t := tok6; (with_reducible refine (has_any (L := 6291499) (by omega) (Rq.le (M := 6291499) (Nq.rq R_m0.out) (by omega)) (Rq.le (M := 6291499) (Nq.rq R_m1.out) (by omega)) (Rq.le (M := 6291499) (Nq.rq R_mv.out) (by omega)) (Nat.le_refl _) inm.out).mono ?_); rintro e w10 ⟨rfl, hb⟩; replace R_a0 := hide (R_a0.out.then_ hb); replace R_a1 := hide (R_a1.out.then_ hb); replace R_b0 := hide (R_b0.out.then_ hb); replace R_b1 := hide (R_b1.out.then_ hb); replace R_r := hide (R_r.out.then_ hb); replace R_x := hide (R_x.out.then_ hb); replace R_y := hide (R_y.out.then_ hb); replace R_m0 := hide (R_m0.out.then_ hb); replace R_m1 := hide (R_m1.out.then_ hb); replace R_mv := hide (R_mv.out.then_ hb); have U15 : Below V4.heap.size V4 w10 := Below.then_ U14 hb; replace B := hide (Below.then_ B.out hb); clear hb; have tok7 : True := trivial; clear _t tok6; clear R_m0; clear R_m1; clear R_mv))
      | (go_at_call 13; (have _t := tok7; (with_reducible refine (smul_any (L := 1048576) (by omega) (Rq.le (M := 1048576) R_a0.out (by omega)) (Rq.le (M := 1048576) R_a1.out (by omega)) (Rq.le (M := 1048576) R_b0.out (by omega)) (Rq.le (M := 1048576) R_b1.out (by omega)) (Nat.le_refl _) htl.out hth.out).mono ?_); rintro e w11 ⟨x_t0, x_t1, rfl, R_t0, R_t1, hb⟩; replace R_a0 := hide (R_a0.out.then_ hb); replace R_a1 := hide (R_a1.out.then_ hb); replace R_b0 := hide (R_b0.out.then_ hb); replace R_b1 := hide (R_b1.out.then_ hb); replace R_r := hide (R_r.out.then_ hb); replace R_x := hide (R_x.out.then_ hb); replace R_y := hide (R_y.out.then_ hb); have U16 : Below V4.heap.size V4 w11 := Below.then_ U15 hb; replace B := hide (Below.then_ B.out hb); replace R_t0 := hide R_t0; replace R_t1 := hide R_t1; clear hb; have tok8 : True := trivial; clear _t tok7))
      | (go_at_call 14; (have _t := tok8; (with_reducible refine (mul_q (Nq.rq R_x.out) (by omega) (Nq.rq R_y.out) (by omega) (Nat.le_refl _) htv.out).mono ?_); rintro e w12 ⟨x_tv, rfl, R_tv, hb⟩; replace R_a0 := hide (R_a0.out.then_ hb); replace R_a1 := hide (R_a1.out.then_ hb); replace R_b0 := hide (R_b0.out.then_ hb); replace R_b1 := hide (R_b1.out.then_ hb); replace R_r := hide (R_r.out.then_ hb); replace R_x := hide (R_x.out.then_ hb); replace R_y := hide (R_y.out.then_ hb); replace R_t0 := hide (R_t0.out.then_ hb); replace R_t1 := hide (R_t1.out.then_ hb); have U17 : Below V4.heap.size V4 w12 := Below.then_ U16 hb; replace B := hide (Below.then_ B.out hb); replace R_tv := hide R_tv; clear hb; have tok9 : True := trivial; clear _t tok8))
      | (go_at_call 8; (have _t := tok9; (with_reducible refine (has_any (L := 6291498) (by omega) (Rq.le (M := 6291498) (Nq.rq R_t0.out) (by omega)) (Rq.le (M := 6291498) (Nq.rq R_t1.out) (by omega)) (Rq.le (M := 6291498) (Nq.rq R_tv.out) (by omega)) (Nat.le_refl _) int.out).mono ?_); rintro e w13 ⟨rfl, hb⟩; replace R_a0 := hide (R_a0.out.then_ hb); replace R_a1 := hide (R_a1.out.then_ hb); replace R_b0 := hide (R_b0.out.then_ hb); replace R_b1 := hide (R_b1.out.then_ hb); replace R_r := hide (R_r.out.then_ hb); replace R_x := hide (R_x.out.then_ hb); replace R_y := hide (R_y.out.then_ hb); replace R_t0 := hide (R_t0.out.then_ hb); replace R_t1 := hide (R_t1.out.then_ hb); replace R_tv := hide (R_tv.out.then_ hb); have U18 : Below V4.heap.size V4 w13 := Below.then_ U17 hb; replace B := hide (Below.then_ B.out hb); clear hb; have tok10 : True := trivial; clear _t tok9; clear R_t0; clear R_t1; clear R_tv)))
  clear tok10
  go_wp2_with fail
  have hd := Below.drw_ w13
  replace R_a0 := hide (R_a0.out.then_ hd)
  replace R_a1 := hide (R_a1.out.then_ hd)
  replace R_b0 := hide (R_b0.out.then_ hd)
  replace R_b1 := hide (R_b1.out.then_ hd)
  replace R_r := hide (R_r.out.then_ hd)
  replace R_x := hide (R_x.out.then_ hd)
  replace R_y := hide (R_y.out.then_ hd)
  have U19 : Below V4.heap.size V4 (w13.drew) := Below.then_ U18 hd
  replace B := hide (Below.then_ B.out hd)
  clear hd
  have tok11 : True := trivial
  go_region_held3 (fun w' => Below V4.heap.size V4 w') (assumption)
    (first
      | (go_at_call 15; (have _t := tok11; (with_reducible refine (scale_any (L := 1048576) (by omega) (Rq.le (M := 1048576) R_a0.out (by omega)) (Rq.le (M := 1048576) R_a1.out (by omega)) (Rq.le (M := 1048576) R_r.out (by omega)) (Nat.le_refl _) hsl.out hsh.out).mono ?_); rintro e w14 ⟨x_s0, x_s1, rfl, R_s0, R_s1, hb⟩; replace R_a0 := hide (R_a0.out.then_ hb); replace R_a1 := hide (R_a1.out.then_ hb); replace R_b0 := hide (R_b0.out.then_ hb); replace R_b1 := hide (R_b1.out.then_ hb); replace R_r := hide (R_r.out.then_ hb); replace R_x := hide (R_x.out.then_ hb); replace R_y := hide (R_y.out.then_ hb); have U20 : Below V4.heap.size V4 w14 := Below.then_ U19 hb; replace B := hide (Below.then_ B.out hb); replace R_s0 := hide R_s0; replace R_s1 := hide R_s1; clear hb; have tok12 : True := trivial; clear _t tok11))
      | (go_at_call 14; (have _t := tok12; (with_reducible refine (mul_q R_r.out (by omega) (Nq.rq R_x.out) (by omega) (Nat.le_refl _) hsv.out).mono ?_); rintro e w15 ⟨x_sv, rfl, R_sv, hb⟩; replace R_a0 := hide (R_a0.out.then_ hb); replace R_a1 := hide (R_a1.out.then_ hb); replace R_b0 := hide (R_b0.out.then_ hb); replace R_b1 := hide (R_b1.out.then_ hb); replace R_r := hide (R_r.out.then_ hb); replace R_x := hide (R_x.out.then_ hb); replace R_y := hide (R_y.out.then_ hb); replace R_s0 := hide (R_s0.out.then_ hb); replace R_s1 := hide (R_s1.out.then_ hb); have U21 : Below V4.heap.size V4 w15 := Below.then_ U20 hb; replace B := hide (Below.then_ B.out hb); replace R_sv := hide R_sv; clear hb; have tok13 : True := trivial; clear _t tok12))
      | (go_at_call 8; (have _t := tok13; (with_reducible refine (has_any (L := 4194326) (by omega) (Rq.le (M := 4194326) (Nq.rq R_s0.out) (by omega)) (Rq.le (M := 4194326) (Nq.rq R_s1.out) (by omega)) (Rq.le (M := 4194326) (Nq.rq R_sv.out) (by omega)) (Nat.le_refl _) ins.out).mono ?_); rintro e w16 ⟨rfl, hb⟩; replace R_a0 := hide (R_a0.out.then_ hb); replace R_a1 := hide (R_a1.out.then_ hb); replace R_b0 := hide (R_b0.out.then_ hb); replace R_b1 := hide (R_b1.out.then_ hb); replace R_r := hide (R_r.out.then_ hb); replace R_x := hide (R_x.out.then_ hb); replace R_y := hide (R_y.out.then_ hb); replace R_s0 := hide (R_s0.out.then_ hb); replace R_s1 := hide (R_s1.out.then_ hb); replace R_sv := hide (R_sv.out.then_ hb); have U22 : Below V4.heap.size V4 w16 := Below.then_ U21 hb; replace B := hide (Below.then_ B.out hb); clear hb; have tok14 : True := trivial; clear _t tok13))
      | (go_at_call 16; (have _t := tok14; (with_reducible refine (awake_s).mono ?_); rintro e w17 ⟨rfl, hb⟩; replace R_a0 := hide (R_a0.out.then_ hb); replace R_a1 := hide (R_a1.out.then_ hb); replace R_b0 := hide (R_b0.out.then_ hb); replace R_b1 := hide (R_b1.out.then_ hb); replace R_r := hide (R_r.out.then_ hb); replace R_x := hide (R_x.out.then_ hb); replace R_y := hide (R_y.out.then_ hb); replace R_s0 := hide (R_s0.out.then_ hb); replace R_s1 := hide (R_s1.out.then_ hb); replace R_sv := hide (R_sv.out.then_ hb); have U23 : Below V4.heap.size V4 w17 := Below.then_ U22 hb; replace B := hide (Below.then_ B.out hb); clear hb; have tok15 : True := trivial; clear _t tok14)))
  clear tok15
  go_wp2
  go_ret
  exact ⟨rfl, B.out⟩

end Go.Proofs.Ytogafnfpncbgiaa
