/-
  Law7, Awk7.
-/
import Derived.Test.YtdihgmbldnekhaaExPC
import Derived.Test.YtdihgmbldnekhaaTextB
import Derived.Deep.RegionWith
import Derived.Test.YtdihgmbldnekhaaExPD
namespace Go.Proofs.Ytdihgmbldnekhaa
section
open Go.RowKit

theorem print_q {w : World} {Bd L : Nat} {a : Rc} {p : Rat} {s : ByteArray} (ha : Rq w Bd L a p) (ga : L ≤ 400000000) (hB : Bd ≤ w.heap.size) (hs : qstr p = s) : Calls Try.prog 74 #[.agg #[.bool a.s, .slice a.A a.n a.c, .slice a.B a.m a.d]] w (RetB w (.string s)) := by
  obtain ⟨xs, ys, h1, h2, h3, h4, h5⟩ := ha
  rw [← hs]
  exact pprint3_any h1 (by omega) h2 (by omega) hB h5
/-- one limb -/
theorem Rd.limb {w : World} {a : Nat} (ha : a < 4294967296) : Rd (w.alloc (Obj.cells #[Value.int IntKind.u32 (a : Int)] 39)) (w.alloc (Obj.cells #[Value.int IntKind.u32 (a : Int)] 39)).heap.size (some ⟨w.heap.size, 0, none⟩) 1 1 [a] := by
  refine ⟨rfl, fun k => ?_, by omega, by omega, by omega, fun _ => ⟨_, rfl, by simp, fun j hj => ?_⟩⟩
  · match k with
    | 0 => simpa [lm] using ha
    | k + 1 => simp [lm]
  · obtain rfl : j = 0 := by omega
    rw [add_zero_, cell_of_row _ _ 0 _ _ (0, 0) (heap_alloc_new w _)]
    simp [lm]
theorem val_limb (a : Nat) : val [a] = a := by simp [val, vl, lm, pw]
set_option maxHeartbeats 4000000 in
theorem part_l {w : World} {z u : Int} {a b : Nat} (hz : z = (a : Int)) (hu : u = (b : Int)) (ha : a < 4294967296) (hb : b < 4294967296) {q : Rat} (hq : qv false a b = q) : Calls Try.prog 18 #[.int .u32 z, .int .u32 u] w (RetR w 1 q) := by
  subst hz hu
  have hqh := hide hq
  have hah := hide ha
  have hbh := hide hb
  clear ha hb hq
  go_enter Try.func18, Try.ntmps18
  go_wp2
  have hR := Box3.new w (.bool false) (.slice (some ⟨w.heap.size + 1, 0, none⟩) 1 1) (.slice (some ⟨w.heap.size + 1 + 1, 0, none⟩) 1 1) rfl
  generalize hV0 : w.alloc (Obj.cells #[Value.bool false, .slice (some ⟨w.heap.size + 1, 0, none⟩) 1 1, .slice (some ⟨w.heap.size + 1 + 1, 0, none⟩) 1 1] 27) = V0 at *
  have hs0 : V0.heap.size = w.heap.size + 1 := by rw [← hV0]; simp
  have hb0 : Below w.heap.size w V0 := by rw [← hV0]; exact Below.al_ (Below.refl _ _) _
  have hA := Rd.limb (w := V0) hah.out
  generalize hV1 : V0.alloc (Obj.cells #[Value.int IntKind.u32 (a : Int)] 39) = V1 at *
  have hs1 : V1.heap.size = w.heap.size + 1 + 1 := by rw [← hV1]; simp [hs0]
  have hb1 : Below V0.heap.size V0 V1 := by rw [← hV1]; exact Below.al_ (Below.refl _ _) _
  have hB := Rd.limb (w := V1) hbh.out
  generalize hV2 : V1.alloc (Obj.cells #[Value.int IntKind.u32 (b : Int)] 39) = V2 at *
  have hb2 : Below V1.heap.size V1 V2 := by rw [← hV2]; exact Below.al_ (Below.refl _ _) _
  have hR2 := (hR.keep hb1).keep hb2
  have hA2 := hA.then_ hb2
  rw [hs0] at hA2
  rw [hs1] at hB
  have c0 := hR2.at0 hR2.lt_size (Nat.le_refl _) V2 (Below.refl _ _)
  have c1 := hR2.at1 hR2.lt_size (Nat.le_refl _) V2 (Below.refl _ _)
  have c2 := hR2.at2 hR2.lt_size (Nat.le_refl _) V2 (Below.refl _ _)
  exact bodyPost_ret (v := .agg #[.bool false, .slice (some ⟨w.heap.size + 1, 0, none⟩) 1 1, .slice (some ⟨w.heap.size + 1 + 1, 0, none⟩) 1 1]) (by simp [results, Try.results18, go_sem, c0, c1, c2]) rfl
    ⟨⟨false, some ⟨w.heap.size + 1, 0, none⟩, 1, 1, some ⟨w.heap.size + 1 + 1, 0, none⟩, 1, 1⟩, rfl, ⟨[a], [b], hA2, hB, Nat.le_refl _, Nat.le_refl _, by rw [val_limb, val_limb]; exact hqh.out⟩, Below.then_ (Below.then_ hb0 hb1) hb2⟩
/-- a list of strings -/
def LS (w : World) (Bd : Nat) (ad : Addr) (n : Nat) (s : Nat → ByteArray) : Prop := ad.block < Bd ∧ ∀ i, i < n → w.cell? (ad.add i) = some (.string (s i))
theorem LS.then_ {w w' : World} {ad : Addr} {n : Nat} {s : Nat → ByteArray} (h : LS w w.heap.size ad n s) (hb : Below w.heap.size w w') : LS w' w'.heap.size ad n s :=
  ⟨Nat.lt_of_lt_of_le h.1 hb.size, fun i hi => (hb.cell (by rw [block_add]; exact h.1)).trans (h.2 i hi)⟩
theorem LS.upto {w w' : World} {Bd : Nat} {ad : Addr} {n : Nat} {s : Nat → ByteArray} (h : LS w Bd ad n s) (hb : Below w.heap.size w w') (hB : Bd ≤ w.heap.size) : LS w' w'.heap.size ad n s :=
  LS.then_ (w := w) ⟨Nat.lt_of_lt_of_le h.1 hB, h.2⟩ hb
theorem LS.new (w : World) (l : List ByteArray) : LS (w.alloc (.cells (l.map Value.string).toArray 9)) (w.alloc (.cells (l.map Value.string).toArray 9)).heap.size ⟨w.heap.size, 0, none⟩ l.length (fun i => l.getD i ByteArray.empty) := by
  refine ⟨by simp, fun i hi => ?_⟩
  have hc : ∀ j, (w.alloc (.cells (l.map Value.string).toArray 9)).cell? ⟨w.heap.size, j, none⟩ = (l.map Value.string).toArray[j]? := fun j => cell_of_row _ _ j _ _ (0, 0) (heap_alloc_new w _)
  rw [Addr.add_lit, hc, Nat.zero_add]
  simp [hi, List.getD]
set_option maxHeartbeats 4000000 in
theorem is_true {nf : Nat → Bool} {w : World} {Bd L n c c' : Nat} {A : Option Addr} {ad' : Addr} {X : Nat → Rc} {q : Nat → Rat} {s : Nat → ByteArray} (hx : LQ nf w Bd L A n c X q) (gL : L ≤ 400000000) (hy : LS w Bd ad' n s) (hB : Bd ≤ w.heap.size) (hc' : n ≤ c' ∧ c' ≤ 9223372036854775807) (hs : ∀ i, i < n → qstr (q i) = s i) :
    Calls Try.prog 41 #[.slice A n c, .slice (some ad') n c'] w (RetB w (.bool true)) := by
  have hcap := hx.cap
  have hcb := hx.cbig
  have hcap' := hc'.1
  have hcb' := hc'.2
  have HX := hide (hx.upto (Below.refl _ _) hB)
  have HY := hide (hy.upto (Below.refl _ _) hB)
  have B := hide (Below.refl w.heap.size w)
  have hsh := hide hs
  clear hx hy hB hs hc'
  go_enter Try.func41, Try.ntmps41
  go_wp2
  go_loopw [5] (fun i wr => ∃ (k : Nat), k ≤ n ∧ i = .int .i64 k ∧ Hid (Below w.heap.size w wr)) (fun i _ => n - (intOf i).toNat)
  case atStart => exact ⟨0, Nat.zero_le _, rfl, B⟩
  case round =>
    obtain ⟨k, hk, rfl, B2⟩ := hrel
    clear B
    by_cases hkl : k < n
    · have HW := HX.out.then_ B2.out
      have HV := HY.out.then_ B2.out
      obtain ⟨ad, hA, hab, E0, E1, E2⟩ := HW.all hkl
      subst hA
      have F0 : ∀ w', Below wr.heap.size wr w' → w'.cell? (ad'.add k) = some (.string (s k)) := fun w' hb => (HV.then_ hb).2 k hkl
      have hk64 : (k : Int) < (n : Int) := by omega
      have RX := hide (HW.nums k hkl).1
      have hbx := Below.drw_ wr
      have hsk := hide (hsh.out k hkl)
      generalize s k = sk at F0 hsk
      clear HW HV hab
      go_wp2_with fail
      go_region_with (go_at_call 74; refine (print_q (RX.out.then_ hbx) gL (Nat.le_refl _) hsk.out).mono ?_; rintro e w1 ⟨rfl, hb⟩; have U1 : Below wr.heap.size wr w1 := Below.then_ hbx hb; have B3 := hide (Below.then_ B2.out U1); clear hb)
      all_goals
        clear E0 E1 E2 F0
        go_wp2
        go_roundw
        case rel => exact ⟨k + 1, by omega, by go_num, B3⟩
        case measure => simp [intOf]; omega
    · obtain rfl : k = n := by omega
      go_wp2
      go_ret
      exact ⟨rfl, B2.out⟩
end

section
open Go.RowKit

def lqz (l : List Rat) (i : Nat) : Rat := l.getD i 0
theorem LQ.congr {nf : Nat → Bool} {w : World} {Bd L n c : Nat} {A : Option Addr} {X : Nat → Rc} {q r : Nat → Rat} (h : LQ nf w Bd L A n c X q) (e : ∀ i, i < n → q i = r i) : LQ nf w Bd L A n c X r :=
  ⟨h.cap, h.cbig, h.cells, fun i hi => by rw [← e i hi]; exact h.nums i hi⟩
/-- a list of small numbers in normal form was handed back, beside an error -/
def RetSm (w : World) (n : Nat) (l : List Rat) (k : Int) (e : Ending) (w' : World) : Prop :=
  ∃ (A : Option Addr) (c : Nat) (Z : Nat → Rc), e = .returned (.tuple #[.slice A n c, .int .i64 k]) ∧ LQ (fun _ => true) w' w'.heap.size 1 A n c Z (lqz l) ∧ Below w.heap.size w w'
theorem RetLE.small {w : World} {L n : Nat} {z : Nat → Rat} {k : Int} {l : List Rat} (hz : ∀ i, i < n → z i = lqz l i) (hs : ∀ i, i < n → zmag (lqz l i).num < pw 1 ∧ (lqz l i).den < pw 1) {e : Ending} {w' : World} (h : RetLE w L n z k e w') : RetSm w n l k e w' := by
  obtain ⟨A, c, Z, y, h1, h2, h3, h4⟩ := h
  have h5 : ∀ i, i < n → y i = lqz l i := fun i hi => (h3 i hi).trans (hz i hi)
  exact ⟨A, c, Z, h1, (h2.congr h5).size (fun i hi => ⟨dl (hs i hi).1, dl (hs i hi).2⟩), h4⟩
/-- a small number beside an error -/
def RetSq (w : World) (q : Rat) (e : Ending) (w' : World) : Prop :=
  ∃ x : Rc, e = .returned (.tuple #[.agg #[.bool x.s, .slice x.A x.n x.c, .slice x.B x.m x.d], .int .i64 0]) ∧ Nq w' w'.heap.size 1 x q ∧ Below w.heap.size w w'
theorem RetRE.small {w : World} {L : Nat} {q r : Rat} {k : Int} (hk : k = 0) (hq : q = r) (hs : zmag r.num < pw 1 ∧ r.den < pw 1) {e : Ending} {w' : World} (h : RetRE w L q k e w') : RetSq w r e w' := by
  obtain ⟨x, h1, h2, _, h4⟩ := h
  subst hk hq
  exact ⟨x, h1, (h2 rfl).size ⟨dl hs.1, dl hs.2⟩, h4⟩
theorem shB_of {q : Rat} (h : 0 ≤ q ∧ q ≤ 1) : shB q = true := by simp [shB, h]
theorem shB_no {q : Rat} (h : ¬ (0 ≤ q ∧ q ≤ 1)) : shB q = false := by simp only [shB, decide_eq_false_iff_not]; exact h
theorem biK_ok {n : Int} {q : Rat} (h : 0 ≤ q ∧ q ≤ 1) (hn : 0 ≤ n ∧ n ≤ 120) : biK n q = (0, n.toNat + 1) := (if_pos (shB_of h)).trans (if_pos hn)
theorem biK_far {n : Int} {q : Rat} (h : 0 ≤ q ∧ q ≤ 1) (hn : ¬ (0 ≤ n ∧ n ≤ 120)) : biK n q = (3, 0) := (if_pos (shB_of h)).trans (if_neg hn)
theorem biK_bad {n : Int} {q : Rat} (h : ¬ (0 ≤ q ∧ q ≤ 1)) : biK n q = (1, 0) := if_neg (by rw [shB_no h]; decide)
theorem hyN_ok {t m d : Nat} (ht : t ≤ 120) (hm : m ≤ t) (hd : d ≤ t) : hyN t m d = (0, min m d + 1) := by
  unfold hyN
  rw [if_pos (by simp only [decide_eq_true_eq]; exact ⟨⟨by omega, by omega⟩, ⟨by omega, by omega⟩, by omega, by omega⟩)]
  simp
/-- the sizes of a list of small numbers -/
theorem szs_small {nf : Nat → Bool} {w : World} {Bd L n c : Nat} {A : Option Addr} {X : Nat → Rc} {q : Nat → Rat} (h : LQ nf w Bd L A n c X q) : ∀ {m : Nat}, m ≤ n → szs X m ≤ m * (2 * L)
  | 0, _ => by simp [szs]
  | m + 1, hm => by
    have ih := szs_small h (m := m) (by omega)
    obtain ⟨xs, ys, _, _, h3, h4, _⟩ := (h.nums m (by omega)).1
    rw [szs, Nat.succ_mul]
    omega
theorem CmH.small {nf : Nat → Bool} {w : World} {Bd n c : Nat} {A : Option Addr} {X : Nat → Rc} {q : Nat → Rat} (h : LQ nf w Bd 1 A n c X q) (hn : n ≤ 10) : CmH w Bd n X q 100 :=
  CmH.any h (by omega) (by omega) (by have := szs_small h (Nat.le_refl _); omega)
theorem binom_s {w : World} {Bd n : Nat} {x : Rc} {q : Rat} {l : List Rat} (h : Rq w Bd 1 x q) (hB : Bd ≤ w.heap.size) {z : Int} (hz : z = (n : Int)) (hn : n ≤ 120) (h01 : 0 ≤ q ∧ q ≤ 1) {N : Nat} (hN : N = n + 1) (hl : ∀ i, i < N → bin n q i = lqz l i) (hs : ∀ i, i < N → zmag (lqz l i).num < pw 1 ∧ (lqz l i).den < pw 1) :
    Calls Try.prog 12 #[.int .i64 z, .agg #[.bool x.s, .slice x.A x.n x.c, .slice x.B x.m x.d]] w (RetSm w N l 0) := by
  subst hz hN
  refine (binom_p (h.le (by omega)) hB (biK_ok h01 (by omega))).mono fun e w' h => ?_
  rw [Int.toNat_natCast] at h
  exact RetLE.small hl hs h
theorem hyper_s {w : World} {t m d : Nat} {l : List Rat} {a b c : Int} (ha : a = (t : Int)) (hb : b = (m : Int)) (hc : c = (d : Int)) (ht : t ≤ 120) (hm : m ≤ t) (hd : d ≤ t) {N : Nat} (hN : N = min m d + 1) (hl : ∀ i, i < N → hyp t m d i = lqz l i) (hs : ∀ i, i < N → zmag (lqz l i).num < pw 1 ∧ (lqz l i).den < pw 1) :
    Calls Try.prog 40 #[.int .i64 a, .int .i64 b, .int .i64 c] w (RetSm w N l 0) := by
  subst ha hb hc hN
  refine (hyper_p (hyN_ok ht hm hd)).mono fun e w' h => ?_
  simp only [Int.toNat_natCast] at h
  exact RetLE.small hl hs h
theorem trials_s {nf : Nat → Bool} {w : World} {Bd n c : Nat} {A : Option Addr} {X : Nat → Rc} {q : Nat → Rat} {l : List Rat} (hx : LQ nf w Bd 1 A n c X q) (hB : Bd ≤ w.heap.size) (hn : n ≤ 10) (h01 : ∀ i, i < n → 0 ≤ q i ∧ q i ≤ 1) {N : Nat} (hN : N = n + 1) (hl : ∀ i, i < N → trl (ql n q) i = lqz l i) (hs : ∀ i, i < N → zmag (lqz l i).num < pw 1 ∧ (lqz l i).den < pw 1) :
    Calls Try.prog 13 #[.slice A n c] w (RetSm w N l 0) := by
  subst hN
  refine (trials_p (hx.le (by omega)) (by have := szs_small hx (Nat.le_refl _); omega) hB (trK_ok (fun i hi => shB_of (h01 i hi)) (by omega))).mono fun e w' h => ?_
  exact RetLE.small hl hs h
theorem convolve_s {mf nf : Nat → Bool} {w : World} {Bd na nb ca cb : Nat} {A A' : Option Addr} {X Y : Nat → Rc} {a b : Nat → Rat} {l : List Rat} (hx : LQ mf w Bd 1 A na ca X a) (hy : LQ nf w Bd 1 A' nb cb Y b) (hB : Bd ≤ w.heap.size) (hna : na ≤ 10) (hnb : nb ≤ 10) (hra : VldQ na a) (hrb : VldQ nb b) {N : Nat} (hN : N = na + nb - 1)
    (hl : ∀ i, i < N → cv (ex na a) (ex nb b) i = lqz l i) (hs : ∀ i, i < N → zmag (lqz l i).num < pw 1 ∧ (lqz l i).den < pw 1) : Calls Try.prog 42 #[.slice A na ca, .slice A' nb cb] w (RetSm w N l 0) := by
  subst hN
  have hk : cvK true true na nb = ((0 : Int), na + nb - 1) := by
    have h1 : ¬ 121 < na + nb - 1 := by omega
    simp [cvK, h1]
  exact (convolve_p hx hy (by omega) hB (CmH.small hx hna) (CmH.small hy hnb) (by omega) (vl_yes hra) (vl_yes hrb) hk).mono fun e w' h => RetLE.small hl hs h
theorem valid_s {nf : Nat → Bool} {w : World} {Bd n c : Nat} {A : Option Addr} {X : Nat → Rc} {q : Nat → Rat} (hx : LQ nf w Bd 1 A n c X q) (hB : Bd ≤ w.heap.size) (hn : n ≤ 10) {b : Bool} (hb : vlB n q = b) : Calls Try.prog 43 #[.slice A n c] w (RetB w (.bool b)) :=
  valid_p hx (by omega) hB (CmH.small hx hn) (by omega) hb
theorem mean_s {nf : Nat → Bool} {w : World} {Bd n c : Nat} {A : Option Addr} {X : Nat → Rc} {q : Nat → Rat} (hx : LQ nf w Bd 1 A n c X q) (hB : Bd ≤ w.heap.size) (hn : n ≤ 10) (hv : VldQ n q) {r : Rat} (hr : qs (mq 1 q) n = r) (hs : zmag r.num < pw 1 ∧ r.den < pw 1) : Calls Try.prog 14 #[.slice A n c] w (RetSq w r) :=
  (mean_p hx (by omega) hB (CmH.small hx hn) (by omega) (vl_yes hv)).mono fun _ _ h => RetRE.small rfl hr hs h
theorem variance_s {nf : Nat → Bool} {w : World} {Bd n c : Nat} {A : Option Addr} {X : Nat → Rc} {q : Nat → Rat} (hx : LQ nf w Bd 1 A n c X q) (hB : Bd ≤ w.heap.size) (hn : n ≤ 10) (hv : VldQ n q) {r : Rat} (hr : qs (mq 2 q) n - qs (mq 1 q) n * qs (mq 1 q) n = r) (hs : zmag r.num < pw 1 ∧ r.den < pw 1) : Calls Try.prog 15 #[.slice A n c] w (RetSq w r) :=
  (variance_p hx (by omega) hB (CmH.small hx hn) (by omega) (vl_yes hv)).mono fun _ _ h => RetRE.small rfl hr hs h
theorem upper_s {nf : Nat → Bool} {w : World} {Bd n c k : Nat} {A : Option Addr} {X : Nat → Rc} {q : Nat → Rat} {z : Int} (hz : z = (k : Int)) (hk : k ≤ 100) (hx : LQ nf w Bd 1 A n c X q) (hB : Bd ≤ w.heap.size) (hn : n ≤ 10) (hv : VldQ n q) {r : Rat} (hr : qs (fun i => if k ≤ i then q i else 0) n = r) (hs : zmag r.num < pw 1 ∧ r.den < pw 1) : Calls Try.prog 44 #[.slice A n c, .int .i64 z] w (RetSq w r) :=
  (upper_p hx (by omega) hB (CmH.small hx hn) (by omega) hz (by omega) (vl_yes hv)).mono fun _ _ h => RetRE.small rfl hr hs h
theorem lower_s {nf : Nat → Bool} {w : World} {Bd n c k : Nat} {A : Option Addr} {X : Nat → Rc} {q : Nat → Rat} {z : Int} (hz : z = (k : Int)) (hk : k ≤ 100) (hx : LQ nf w Bd 1 A n c X q) (hB : Bd ≤ w.heap.size) (hn : n ≤ 10) (hv : VldQ n q) {r : Rat} (hr : qs (fun i => if i ≤ k then q i else 0) n = r) (hs : zmag r.num < pw 1 ∧ r.den < pw 1) : Calls Try.prog 45 #[.slice A n c, .int .i64 z] w (RetSq w r) :=
  (lower_p hx (by omega) hB (CmH.small hx hn) (by omega) hz (by omega) (vl_yes hv)).mono fun _ _ h => RetRE.small rfl hr hs h
theorem both_s {nf : Nat → Bool} {w : World} {Bd n c k : Nat} {A : Option Addr} {X : Nat → Rc} {q : Nat → Rat} {z : Int} (hz : z = (k : Int)) (hk : k < n) (hx : LQ nf w Bd 1 A n c X q) (hB : Bd ≤ w.heap.size) (hn : n ≤ 10) (hv : VldQ n q) {r : Rat} (hr : both q k n = r) (hs : zmag r.num < pw 1 ∧ r.den < pw 1) : Calls Try.prog 46 #[.slice A n c, .int .i64 z] w (RetSq w r) :=
  (both_p hx (by omega) hB (CmH.small hx hn) (by omega) hz (by omega) (vl_yes hv) ((if_pos hk).trans hr)).mono fun _ _ h => RetRE.small rfl rfl hs h
/-- literals of ratios -/
theorem lq_three {w : World} {L : Nat} {x y z : Rc} {p q r : Rat} (hx : Rq w w.heap.size L x p) (hy : Rq w w.heap.size L y q) (hz : Rq w w.heap.size L z r) :
    LQ (fun _ => false) (w.alloc (.cells #[.bool x.s, .slice x.A x.n x.c, .slice x.B x.m x.d, .bool y.s, .slice y.A y.n y.c, .slice y.B y.m y.d, .bool z.s, .slice z.A z.n z.c, .slice z.B z.m z.d] 27)) (w.alloc (.cells #[.bool x.s, .slice x.A x.n x.c, .slice x.B x.m x.d, .bool y.s, .slice y.A y.n y.c, .slice y.B y.m y.d, .bool z.s, .slice z.A z.n z.c, .slice z.B z.m z.d] 27)).heap.size L (some ⟨w.heap.size, 0, none⟩) 3 3
      (fun i => if i = 0 then x else if i = 1 then y else z) (fun i => if i = 0 then p else if i = 1 then q else r) := by
  refine ⟨Nat.le_refl _, by omega, fun _ => ⟨_, rfl, by simp, fun i hi => ?_⟩, fun i hi => ⟨?_, fun e => by cases e⟩⟩
  · have hc : ∀ j, (w.alloc (.cells #[.bool x.s, .slice x.A x.n x.c, .slice x.B x.m x.d, .bool y.s, .slice y.A y.n y.c, .slice y.B y.m y.d, .bool z.s, .slice z.A z.n z.c, .slice z.B z.m z.d] 27)).cell? ⟨w.heap.size, j, none⟩ = #[Value.bool x.s, .slice x.A x.n x.c, .slice x.B x.m x.d, .bool y.s, .slice y.A y.n y.c, .slice y.B y.m y.d, .bool z.s, .slice z.A z.n z.c, .slice z.B z.m z.d][j]? := fun j => cell_of_row _ _ j _ _ (0, 0) (heap_alloc_new w _)
    rcases (by omega : i = 0 ∨ i = 1 ∨ i = 2) with rfl | rfl | rfl
    all_goals exact ⟨by rw [Addr.add_lit, hc]; rfl, by rw [Addr.add_lit, hc]; rfl, by rw [Addr.add_lit, hc]; rfl⟩
  · rcases (by omega : i = 0 ∨ i = 1 ∨ i = 2) with rfl | rfl | rfl
    · exact hx.al_ _
    · exact hy.al_ _
    · exact hz.al_ _
theorem ls_three (w : World) (a b c : ByteArray) : LS (w.alloc (.cells #[.string a, .string b, .string c] 9)) (w.alloc (.cells #[.string a, .string b, .string c] 9)).heap.size ⟨w.heap.size, 0, none⟩ 3 (fun i => [a, b, c].getD i ByteArray.empty) := LS.new w [a, b, c]
theorem ls_two (w : World) (a b : ByteArray) : LS (w.alloc (.cells #[.string a, .string b] 9)) (w.alloc (.cells #[.string a, .string b] 9)).heap.size ⟨w.heap.size, 0, none⟩ 2 (fun i => [a, b].getD i ByteArray.empty) := LS.new w [a, b]
end
end Go.Proofs.Ytdihgmbldnekhaa
