/-
  A slice of ratios in memory; Sum of ratio.
-/
import Derived.Test.YtieopcchchebgaaOpenRat
import Derived.Test.YtieopcchchebgaaLaw3m
import Derived.Test.YtieopcchchebgaaRRat3
namespace Go.Proofs.Ytieopcchchebgaa
open Go.ChangeShapes Go.WideShapes Go.ChangeAt Go.RowKit

/-- an element: sign, magnitude, denominator -/
structure Rt where
  s : Bool
  A : Option Addr
  n : Nat
  c : Nat
  xs : List Nat
  B : Option Addr
  m : Nat
  d : Nat
  ys : List Nat
def Rt.q (e : Rt) : Rat := qv e.s (val e.xs) (val e.ys)
def RtAt (w : World) (ad : Addr) (i : Nat) (e : Rt) : Prop :=
  w.cell? (ad.add (i * 3)) = some (.bool e.s) ∧ w.cell? (ad.add (i * 3 + 1)) = some (.slice e.A e.n e.c) ∧ w.cell? (ad.add (i * 3 + 2)) = some (.slice e.B e.m e.d) ∧
    (e.n ≤ 70368744177664 → Rd w w.heap.size e.A e.n e.c e.xs) ∧ (e.m ≤ 70368744177664 → Rd w w.heap.size e.B e.m e.d e.ys)
/-- the slice: so many elements, each readable -/
def Rats (w : World) (A : Option Addr) (n c : Nat) (E : Nat → Rt) : Prop :=
  n ≤ c ∧ c ≤ maxLen ∧ (0 < n → ∃ ad, A = some ad ∧ ad.block < w.heap.size ∧ ∀ i, i < n → RtAt w ad i (E i))
theorem RtAt.keep {w w' : World} {ad : Addr} {i : Nat} {e : Rt} (h : RtAt w ad i e) (hb : Below w.heap.size w w') (ha : ad.block < w.heap.size) : RtAt w' ad i e := by
  obtain ⟨h0, h1, h2, h3, h4⟩ := h
  refine ⟨(hb.cell (p := ad.add (i * 3)) (by rw [block_add]; exact ha)).trans h0, (hb.cell (p := ad.add (i * 3 + 1)) (by rw [block_add]; exact ha)).trans h1, (hb.cell (p := ad.add (i * 3 + 2)) (by rw [block_add]; exact ha)).trans h2, fun h => (h3 h).then_ hb, fun h => (h4 h).then_ hb⟩
theorem Rats.keep {w w' : World} {A : Option Addr} {n c : Nat} {E : Nat → Rt} (h : Rats w A n c E) (hb : Below w.heap.size w w') : Rats w' A n c E :=
  ⟨h.1, h.2.1, fun hn => by
    obtain ⟨ad, rfl, ha, hi⟩ := h.2.2 hn
    exact ⟨ad, rfl, Nat.lt_of_lt_of_le ha hb.size, fun i hin => (hi i hin).keep hb ha⟩⟩

set_option maxRecDepth 100000 in
theorem open_rats {H : Type} {enc : TypeId × Value → H} {W : World} {fuel : Nat} {a0 : Option Addr} {len cap : Nat} {d : DataW H} {p : List MemPlace}
    (hf : DataW.trod enc Try.prog W 0 (fun _ => true) true fuel 43 (Value.slice a0 len cap).cells.toList = some (d, p)) :
    ∃ E : Nat → Rt, Rats W a0 len cap E := by
  rcases Go.Deep.open_slice Try.underlying43 hf with ⟨hcs, hx⟩ | ⟨a, len', cap', m, n, D, Pl, hcs, hb, hl, hm, hmm, hx, hi⟩
  · simp [Value.cells] at hcs
    obtain ⟨rfl, rfl, rfl⟩ := hcs
    exact ⟨fun _ => ⟨false, none, 0, 0, [], none, 0, 0, []⟩, Nat.le_refl _, Nat.zero_le _, fun h => by omega⟩
  · simp [Value.cells] at hcs
    obtain ⟨rfl, rfl, rfl⟩ := hcs
    have key : ∀ i, i < len → ∃ e : Rt, RtAt W a i e := by
      intro i hi'
      obtain ⟨cs', hc, ht'⟩ := hi i (by simp only [if_true] at hmm; omega)
      rw [Try.cellsRat] at hc
      obtain ⟨_, hcl, hat⟩ := World.cells?_some hc
      match cs', hcl with
      | [c0, c1, c2], _ =>
        obtain ⟨s, A, n', c, xs, B, m', d', ys, rfl, rfl, rfl, hR, hR'⟩ := open_rat_cells ht'
        have e0 := hat 0 (by omega)
        have e1 := hat 1 (by omega)
        have e2 := hat 2 (by omega)
        rw [Go.Deep.add_add] at e0 e1 e2
        exact ⟨⟨s, A, n', c, xs, B, m', d', ys⟩, e0, e1, e2, hR, hR'⟩
    refine ⟨fun i => if h : i < len then Classical.choose (key i h) else ⟨false, none, 0, 0, [], none, 0, 0, []⟩, hl, hm, fun h0 => ⟨a, rfl, ?_, fun i hi' => ?_⟩⟩
    · obtain ⟨e, he, _⟩ := key 0 h0
      have := World.block_lt_of_cell? W _ he
      rwa [block_add] at this
    · simp only [dif_pos hi']
      exact Classical.choose_spec (key i hi')

/-- partial sums -/
def psum (E : Nat → Rt) : Nat → Rat
  | 0 => 0
  | k + 1 => psum E k + (E k).q
theorem psum_sz {w : World} {A : Option Addr} {n c : Nat} {E : Nat → Rt} (h : Rats w A n c E) (hs : ∀ i, i < n → (E i).n ≤ 6 ∧ (E i).m ≤ 6) : ∀ k, k ≤ n → (dig (zmag (psum E k).num)).length ≤ 8 * k + 1 ∧ (dig (psum E k).den).length ≤ 8 * k + 1
  | 0, _ => by
    show (dig (zmag (0 : Rat).num)).length ≤ 1 ∧ (dig (0 : Rat).den).length ≤ 1
    rw [q0num, q0den, dig_one, show zmag 0 = 0 from rfl, dig_zero]
    exact ⟨Nat.zero_le _, Nat.le_refl _⟩
  | k + 1, hk => by
    have ih := psum_sz h hs k (by omega)
    obtain ⟨ad, _, _, hi⟩ := h.2.2 (by omega)
    obtain ⟨_, _, _, hR, hR'⟩ := hi k (by omega)
    have h6 := hs k (by omega)
    have hq := sz_rd (i := 6) (hR (by omega)) (hR' (by omega)) (q := (E k).q) rfl h6.1 h6.2
    have := sz_add (r := psum E (k + 1)) rfl ih hq
    omega
/-- the loop's state: the sum lies in its box -/
def SumInv (w wr : World) (g : Nat) (q : Rat) (A : Option Addr) (c : Nat) (B : Option Addr) (d : Nat) : Prop :=
  Below w.heap.size w wr ∧ Box3 wr w.heap.size (.bool false) (.slice none 0 0) (.slice none 0 0) ∧ Box3 wr g (.bool (zneg q.num)) (.slice A (dig (zmag q.num)).length c) (.slice B (dig q.den).length d) ∧
    Rd wr wr.heap.size A (dig (zmag q.num)).length c (dig (zmag q.num)) ∧ Rd wr wr.heap.size B (dig q.den).length d (dig q.den) ∧ w.heap.size < g
theorem SumInv.set {w wr w5 : World} {g : Nat} {q q' : Rat} {A A' B B' : Option Addr} {c c' d d' : Nat} (h : SumInv w wr g q A c B d) (hb : Below wr.heap.size wr w5)
    (R : Rd w5 w5.heap.size A' (dig (zmag q'.num)).length c' (dig (zmag q'.num))) (R' : Rd w5 w5.heap.size B' (dig q'.den).length d' (dig q'.den)) :
    SumInv w (((w5.setCell ⟨g, 0, none⟩ (.bool (zneg q'.num))).setCell ⟨g, 1, none⟩ (.slice A' (dig (zmag q'.num)).length c')).setCell ⟨g, 2, none⟩ (.slice B' (dig q'.den).length d')) g q' A' c' B' d' := by
  obtain ⟨h1, h2, h3, _, _, h6⟩ := h
  have hge : w.heap.size ≤ g := by omega
  have hne : w.heap.size ≠ g := by omega
  obtain ⟨c0, c1, c2, _, _, _, _⟩ := box3_kept_at h3 h3.lt_size (Nat.le_refl _) hb
  refine ⟨(((h1.trans (hb.mono h1.size)).setCell hge _).setCell hge _).setCell hge _, Box3.other (Box3.other (Box3.other (h2.keep hb) hne _) hne _) hne _, Box3.set (h3.keep hb) _ _ _, ?_, ?_, h6⟩
  · simpa using far3 c0 c1 c2 _ _ _ R
  · simpa using far3 c0 c1 c2 _ _ _ R'
theorem SumInv.start {w w1 : World} {A B : Option Addr} {c d : Nat} {q : Rat} (hb : Below (w.alloc (.cells #[.bool false, .slice none 0 0, .slice none 0 0] 27)).heap.size (w.alloc (.cells #[.bool false, .slice none 0 0, .slice none 0 0] 27)) w1)
    (R : Rd w1 w1.heap.size A (dig (zmag q.num)).length c (dig (zmag q.num))) (R' : Rd w1 w1.heap.size B (dig q.den).length d (dig q.den)) :
    SumInv w (w1.alloc (.cells #[.bool (zneg q.num), .slice A (dig (zmag q.num)).length c, .slice B (dig q.den).length d] 27)) w1.heap.size q A c B d := by
  have h0 : Below w.heap.size w w1 := Below.al_then hb
  have hs := hb.size
  exact ⟨Below.al_ h0 _, ((Box3.new w _ _ _ rfl).keep hb).al _, Box3.new w1 _ _ _ rfl, R.al_, R'.al_, by simp at hs; omega⟩

set_option maxHeartbeats 4000000 in
set_option maxRecDepth 100000 in
theorem psum_any {w : World} {A0 : Option Addr} {n c0 : Nat} {E : Nat → Rt} (hE : Rats w A0 n c0 E) (hn : n ≤ 20) (hs : ∀ i, i < n → (E i).n ≤ 6 ∧ (E i).m ≤ 6) {q : Rat} (hq : psum E n = q) :
    Calls Try.prog 41 #[.slice A0 n c0] w (RetRat w q) := by
  have hsz := hide (psum_sz hE hs)
  have hcap := hE.1
  have hcm := hE.2.1
  replace hE := hide hE
  replace hs := hide hs
  replace hq := hide hq
  go_enter Try.func41, Try.ntmps41
  go_wp2_with fail
  refine (zero_any (q := psum E 0) rfl).mono ?_
  rintro e w1 ⟨A1, c1, B1, d1, rfl, R1, R1', hb1⟩
  have hstart := hide (SumInv.start hb1 R1 R1')
  clear R1 R1' hb1
  go_wp2
  generalize w1.heap.size = g at *
  go_loopw [9] (fun i wr => ∃ k : Nat, k ≤ n ∧ i = .int .i64 k ∧ ∃ (A : Option Addr) (c : Nat) (B : Option Addr) (d : Nat), Hid (SumInv w wr g (psum E k) A c B d)) (fun i _ => n - (intOf i).toNat)
  case atStart => exact ⟨0, Nat.zero_le _, rfl, A1, c1, B1, d1, hstart⟩
  case round =>
    obtain ⟨k, hk, rfl, A, c, B, d, hI⟩ := hrel
    have U0 : Below wr.heap.size wr wr := Below.refl _ _
    have hg := hI.out.2.2.1
    have hr := hI.out.2.1
    have c_g0 := hg.at0 hg.lt_size (Nat.le_refl _)
    have c_g1 := hg.at1 hg.lt_size (Nat.le_refl _)
    have c_g2 := hg.at2 hg.lt_size (Nat.le_refl _)
    by_cases hkl : k < n
    · have f_g0 := hg.free0 hg.lt_size (Nat.le_refl _)
      have f_g1 := hg.free1 hg.lt_size (Nat.le_refl _)
      have f_g2 := hg.free2 hg.lt_size (Nat.le_refl _)
      have l_g := hg.lt hg.lt_size (Nat.le_refl _)
      obtain ⟨ad, hA, hab, hi⟩ := (hE.out.keep hI.out.1).2.2 (by omega)
      subst hA
      obtain ⟨e0, e1, e2, eR, eR'⟩ := hi k hkl
      rw [← Go.Deep.add_add] at e1 e2
      replace e1 : wr.cell? ⟨(ad.add (k * 3)).block, (ad.add (k * 3)).off + 1, none⟩ = some (.slice (E k).A (E k).n (E k).c) := e1
      replace e2 : wr.cell? ⟨(ad.add (k * 3)).block, (ad.add (k * 3)).off + 2, none⟩ = some (.slice (E k).B (E k).m (E k).d) := e2
      obtain ⟨p, hp⟩ : ∃ p, psum E k = p := ⟨_, rfl⟩
      obtain ⟨t, ht⟩ : ∃ t, psum E (k + 1) = t := ⟨_, rfl⟩
      have hs6 := hs.out k hkl
      have R2 := hide (eR (by omega))
      have R3 := hide (eR' (by omega))
      have hpz := hsz.out k (by omega)
      have hsum : p + (E k).q = t := by rw [← hp, ← ht]; rfl
      have hsum' := hide (show qv (zneg p.num) (val (dig (zmag p.num))) (val (dig p.den)) + qv (E k).s (val (E k).xs) (val (E k).ys) = t by rw [qv_eta]; exact hsum)
      rw [hp] at hI c_g0 c_g1 c_g2 hpz
      have b1 := hide (show (dig (zmag p.num)).length ≤ 1000000000 ∧ (dig p.den).length ≤ 1000000000 by omega)
      have b2 := hide (show (E k).n ≤ 1000000000 ∧ (E k).m ≤ 1000000000 by omega)
      obtain ⟨_, _, _, Rp, Rp', _⟩ := hI.out
      replace Rp := hide Rp
      replace Rp' := hide Rp'
      replace hp := hide hp
      replace ht := hide ht
      clear hg hr eR eR' hi hs6 hpz hsum
      have hbx : Below wr.heap.size wr (wr.alloc (.cells #[.bool (E k).s, .slice (E k).A (E k).n (E k).c, .slice (E k).B (E k).m (E k).d] 27)) := Below.al_ U0 _
      go_wp2_with fail
      refine (padd_any (Rp.out.then_ hbx) b1.out.1 (Rp'.out.then_ hbx) b1.out.2 (R2.out.then_ hbx) b2.out.1 (R3.out.then_ hbx) b2.out.2 (Nat.le_refl _) hsum'.out).mono ?_
      rintro e w5 ⟨A5, c5, B5, d5, rfl, R5, R5', hb5⟩
      have U5 : Below wr.heap.size wr w5 := Below.al_then hb5
      have hN := hide (SumInv.set hI.out U5 R5 R5')
      clear hb5 R5 R5' hbx
      go_wp2
      go_roundw
      case rel => exact ⟨k + 1, by omega, by go_num, A5, c5, B5, d5, by rw [ht.out]; exact hN⟩
      case measure => simp [intOf]; omega
    · obtain rfl : k = n := by omega
      have c_r0 := hr.at0 hr.lt_size (Nat.le_refl _)
      have c_r1 := hr.at1 hr.lt_size (Nat.le_refl _)
      have c_r2 := hr.at2 hr.lt_size (Nat.le_refl _)
      have f_r0 := hr.free0 hr.lt_size (Nat.le_refl _)
      have f_r1 := hr.free1 hr.lt_size (Nat.le_refl _)
      have f_r2 := hr.free2 hr.lt_size (Nat.le_refl _)
      have l_r := hr.lt hr.lt_size (Nat.le_refl _)
      rw [hq.out] at hI c_g0 c_g1 c_g2
      clear hg hr
      go_wp2
      obtain ⟨hB, _, _, Rp, Rp', _⟩ := hI.out
      exact bodyPost_ret (v := .agg #[.bool (zneg q.num), .slice A (dig (zmag q.num)).length c, .slice B (dig q.den).length d]) (by simp [results, Try.results41, go_sem, c_r0 _ U0, c_r1 _ U0, c_r2 _ U0]) rfl (RetRat.box hB (by omega) (c_r0 _ U0) (c_r1 _ U0) (c_r2 _ U0) Rp Rp')

end Go.Proofs.Ytieopcchchebgaa
