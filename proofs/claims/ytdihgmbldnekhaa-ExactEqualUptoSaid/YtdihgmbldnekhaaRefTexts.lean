/-
  RefText, RefParse0, RefParse.
-/
import Derived.Test.YtdihgmbldnekhaaRefSum
import Derived.Test.YtdihgmbldnekhaaNatBits
import Derived.Test.YtdihgmbldnekhaaNatText
import Derived.OwnWalk
import Derived.Deep.DeepAppendRoom
import Derived.Deep.RegionHeld3
namespace Go.Proofs.Ytdihgmbldnekhaa
section
open Go.RowKit

def RetShort (w : World) (m r : Nat) (e : Ending) (w' : World) : Prop :=
  ∃ g, w.heap.size ≤ g ∧ e = .returned (.tuple #[.slice (some ⟨g, 0, none⟩) (dig m).length (dig m).length, .int .u64 (r : Int)]) ∧ Own w' g (dig m) ∧ Below w.heap.size w w'

set_option maxHeartbeats 1000000 in
theorem rshort_any (w : World) (Bd : Nat) (A : Option Addr) (n c : Nat) (xs : List Nat) (d : Nat) (h : Rd w Bd A n c xs) (hB : Bd ≤ w.heap.size) (hd0 : 0 < d) (hd : d < 4294967296) :
    Calls Try.prog 135 #[.slice A n c, .int .u64 (d : Int)] w (RetShort w (val xs / d) (val xs % d)) := by
  have hbig := h.big
  have hcap := h.cap
  have H := hide h
  clear h
  go_enter Try.func135, Try.ntmps135
  go_wp2_with (at_make; refine wpList_make_nat _ rfl _ _ rfl _ _ _ _ n rfl rfl (by omega) (by omega) (by omega) ?_; intro w1 hown hb hg)
  go_loopw [7, 8] (fun u i wr => ∃ (z : Int) (r : Nat), -1 ≤ z ∧ z < n ∧ r < d ∧ i = .int .i64 z ∧ u = .int .u64 (r : Int) ∧ ∃ os : List Nat, os.length = n ∧ val (xs.drop (z + 1).toNat) = d * val (os.drop (z + 1).toNat) + r ∧ Own wr w.heap.size os ∧ Below w.heap.size w wr) (fun _ i _ => (intOf i + 1).toNat)
  case atStart =>
    refine ⟨(n : Int) - 1, 0, by omega, by omega, hd0, rfl, rfl, List.replicate n 0, List.length_replicate, ?_, hown, hb⟩
    rw [List.drop_eq_nil_of_le (by rw [H.out.len]; omega), List.drop_eq_nil_of_le (by rw [List.length_replicate]; omega)]
    rfl
  case round =>
    obtain ⟨z, r, hz1, hz2, hr, rfl, rfl, os, hos, hval, hO, hBl⟩ := hrel
    by_cases hpos : 0 ≤ z
    · obtain ⟨k, rfl⟩ : ∃ k : Nat, z = k := ⟨z.toNat, by omega⟩
      have hk : k < n := by omega
      rw [show ((k : Int) + 1).toNat = k + 1 by omega] at hval
      have hco := hO.cell (j := k) (by omega)
      have hfo := hO.frozen k
      obtain ⟨ad, rfl, hadb, hca⟩ := (H.out.below (hBl.mono hB)).at_ hk
      have hlo := H.out.limbs k
      have hst := hide (div_step (os := xs) (os' := os) (by rw [hos, H.out.len]) (by rw [H.out.len]; omega) hval (4294967296 * r + lm xs k) rfl)
      have hq := quo_lt (s := 4294967296 * r + lm xs k) rfl hlo hr
      have hm := Nat.mod_lt (4294967296 * r + lm xs k) hd0
      have e : Hid (((r : Int) * 4294967296 + (lm xs k : Int)) / (d : Int) = (((4294967296 * r + lm xs k) / d : Nat) : Int)) := hide (by rw [Int.mul_comm]; simp)
      have e2 : Hid (((r : Int) * 4294967296 + (lm xs k : Int)) % (d : Int) = (((4294967296 * r + lm xs k) % d : Nat) : Int)) := hide (by rw [Int.mul_comm]; simp)
      replace hO := hide hO
      replace hBl := hide hBl
      clear hval
      go_wp2
      go_roundw
      case rel =>
        refine ⟨(k : Int) - 1, (4294967296 * r + lm xs k) % d, by omega, by omega, hm, rfl, by rw [e2.out], _, by simpa using hos, ?_, hO.out.put hq (by rw [e.out]; exact mod_small hq), hBl.out.setCell (Nat.le_refl _) _⟩
        rw [show ((k : Int) - 1 + 1).toNat = k by omega]
        exact hst.out
      case measure => simp [intOf]
    · have hz0 : z = -1 := by omega
      subst hz0
      have hR := hO.rd0 (c := n) (by omega) (by omega) hO.lt
      rw [hos] at hR
      obtain ⟨hv1, hv2⟩ := div_end (os := xs) (os' := os) (by simpa using hval) hr
      replace hv1 := hide hv1
      replace hv2 := hide hv2
      clear hval
      replace hR := hide hR
      replace hO := hide hO
      replace hBl := hide hBl
      go_wp2_with fail
      refine (rnorm_any _ _ _ _ _ _ hR.out (Nat.le_refl _)).mono ?_
      rw [hv1.out]
      rintro e w2 ⟨rfl, hO2, hb2, hlm⟩
      replace hO2 := hide hO2
      replace hb2 := hide hb2
      go_wp2
      go_ret2
      rw [← hv2.out]
      exact ⟨_, hBl.out.size, rfl, hO2.out, hBl.out.trans (hb2.out.mono hBl.out.size)⟩

/-- bytes in a block of the call's own that has room for cap of them -/
def byteN (x : Nat) : Value := .int .u8 (x : Int)
def OwnA (w : World) (g k cap : Nat) (E : List Nat) : Prop := E.length = k ∧ w.ownsRow 0 5 1 (.slice (some ⟨g, 0, none⟩) k cap) k (E.map byteN)
theorem OwnA.form {w : World} {g k cap : Nat} {E : List Nat} (h : OwnA w g k cap E) : ∃ cur, w.heap[g]? = some (.cells cur 5 (0, 0)) ∧ k ≤ cap ∧ cap ≤ maxLen ∧ cur.size = cap * 1 ∧ cur.toList.take (k * 1) = E.map byteN := by
  rcases h.2.2 with ⟨h', _⟩ | ⟨g', cap', cur, h', _, h1, h2, h3, h4, h5⟩
  · simp at h'
  · simp only [Value.slice.injEq, Option.some.injEq, Addr.mk.injEq, and_true, true_and] at h'
    obtain ⟨rfl, rfl⟩ := h'
    exact ⟨cur, h1, h2, h3, h4, h5⟩
theorem OwnA.lt {w : World} {g k cap : Nat} {E : List Nat} (h : OwnA w g k cap E) : g < w.heap.size := by
  obtain ⟨cur, hg, _⟩ := h.form
  exact (Array.getElem?_eq_some_iff.1 hg).1
theorem OwnA.block {w w' : World} {g k cap : Nat} {E : List Nat} (h : OwnA w g k cap E) (hb : w'.heap[g]? = w.heap[g]?) : OwnA w' g k cap E := by
  obtain ⟨cur, h1, h2, h3, h4, h5⟩ := h.form
  exact ⟨h.1, h.2.1, .inr ⟨g, cap, cur, rfl, Nat.zero_le _, hb.trans h1, h2, h3, h4, h5⟩⟩
theorem OwnA.below {w w' : World} {g k cap B : Nat} {E : List Nat} (h : OwnA w g k cap E) (hb : Below B w w') (hg : g < B) : OwnA w' g k cap E := h.block (hb.block g hg)
theorem OwnA.cell {w : World} {g k cap : Nat} {E : List Nat} (h : OwnA w g k cap E) {j : Nat} (hj : j < k) : w.cell? ⟨g, j, none⟩ = some (.int .u8 (lm E j : Int)) := by
  have hl := h.1
  rw [World.ownsRow.cellAt h.2 j (by omega), List.getElem?_map, lm_get? (by omega)]
  rfl

/-- 'make([]byte, 0, n)' -/
theorem wpList_make_room {ops : Array Oper} {rest : List Oper} {o : Oper} {a : Act} {Q : Exit → Act → World → Prop} (w : World)
    (hg : o.guard = none) (l c : Operand) (hop : o.op = Op.makeSlice 137 l c) (kl kc : IntKind) (C : Int) (n : Nat) (hl : a.eval l = .int kl 0) (hc : a.eval c = .int kc C) (hC : C = (n : Int)) (hn : n ≤ 281474976710656)
    (hK : ∀ w1, OwnA w1 w.heap.size 0 n [] → Below w.heap.size w w1 → wpList Try.prog ops Q rest (a.put o.dst (.slice (some ⟨w.heap.size, 0, none⟩) 0 n)) w1) :
    wpList Try.prog ops Q (o :: rest) a w := by
  obtain ⟨i0, hi, hz0, hz1, hz2⟩ := info_parts Try.infoByte
  refine wpList_make_own w hg l c 137 hop 0 5 i0 (.int .u8 0) 1 Try.underlying137 hi hz0 hz1 kl kc C n hl hc hC (by rw [hz2]; omega) (by simp only [maxLen]; omega) (Nat.zero_le _) ?_
  intro w1 hown hgrow
  exact hK w1 ⟨rfl, hown⟩ ((Below.refl _ _).grown hgrow (Nat.le_refl _) (by simp))

/-- 'append(b, x)', within the room -/
theorem wpList_append_byte {ops : Array Oper} {rest : List Oper} {o : Oper} {a : Act} {Q : Exit → Act → World → Prop} {w0 w2 : World} (hgd : o.guard = none) (s x : Operand)
    (ho : o.op = .call { callee := .builtin .append, args := #[s, x], argTypes := #[137, 137] })
    (g k cap : Nat) (E : List Nat) (q : Nat) (u : Int) (hs : a.eval s = .slice (some ⟨g, 0, none⟩) k cap) (hx : a.eval x = .slice (some ⟨w2.heap.size, 0, none⟩) 1 1)
    (hu : u = (q : Int)) (hown : OwnA w2 g k cap E) (hroom : k + 1 ≤ cap) (B : Nat) (hB : Below B w0 w2) (hBg : B ≤ g) (hBs : B ≤ w2.heap.size)
    (h : ∀ w', OwnA w' g (k + 1) cap (E ++ [q]) → Below B w0 w' → (w2.alloc (.cells #[.int .u8 u] 5)).grownBy w' (some g) → wpList Try.prog ops Q rest (a.put o.dst (.slice (some ⟨g, 0, none⟩) (k + 1) cap)) w') :
    wpList Try.prog ops Q (o :: rest) a (w2.alloc (.cells #[.int .u8 u] 5)) := by
  subst hu
  obtain ⟨i0, hi, hz0, hz1, hz2⟩ := info_parts Try.infoByte
  refine wpList_append_own_spare _ hgd s x 137 ho 0 5 i0 1 Try.underlying137 hi hz1 g k cap (E.map byteN) hs (World.ownsRow.alloc hown.2 _)
    ⟨w2.heap.size, 0, none⟩ 1 1 [byteN q] hx rfl ?_ ?_ hroom ?_
  · intro j u hj
    match j, hj with
    | 0, hj =>
      simp at hj; subst hj
      rw [add_zero_, cell_of_row _ w2.heap.size 0 _ _ (0, 0) (heap_alloc_new w2 _)]
      rfl
  · intro u hu; simp at hu; subst hu; rfl
  · intro w' hown' hgrow
    refine h w' ⟨by simp [hown.1], by simpa using hown'⟩ ((hB.alloc hBs _).grown hgrow (by simp; omega) (fun k hk => ?_)) hgrow
    cases hk
    exact hBg

def lenV : Value → Nat
  | .slice _ k _ => k
  | _ => 0

end

section
open Go.RowKit

end

section
open Go.RowKit

theorem alloc_size (w : World) (o : Obj) : (w.alloc o).heap.size = w.heap.size + 1 := by cases w; simp [World.alloc]
theorem Rd.al {w : World} {A : Option Addr} {n c : Nat} {xs : List Nat} (h : Rd w w.heap.size A n c xs) (o : Obj) : Rd (w.alloc o) (w.alloc o).heap.size A n c xs :=
  (h.alloc (Nat.le_refl _) o).more (by rw [alloc_size]; omega)
theorem Rd.dr {w : World} {A : Option Addr} {n c : Nat} {xs : List Nat} (h : Rd w w.heap.size A n c xs) : Rd w.drew w.drew.heap.size A n c xs := ⟨h.len, h.limbs, h.cap, h.big, h.cbig, h.cells⟩
theorem Rd.bl {w w' : World} {A : Option Addr} {n c : Nat} {xs : List Nat} (h : Rd w w.heap.size A n c xs) (hb : Below w.heap.size w w') : Rd w' w'.heap.size A n c xs :=
  (h.below hb).more hb.size
def litU (q : Nat) : Obj := .cells #[.int .u32 (q : Int)] 39
theorem Rd.lit (w : World) (q : Nat) (hq : q < 4294967296) : Rd (w.alloc (litU q)) (w.alloc (litU q)).heap.size (some ⟨w.heap.size, 0, none⟩) 1 1 [q] := by
  refine ⟨rfl, Limbs_cons hq Limbs_nil, by omega, by omega, by omega, fun _ => ⟨_, rfl, by rw [alloc_size]; exact Nat.lt_succ_self _, fun j hj => ?_⟩⟩
  rw [litU, Addr.add_lit, cell_of_row _ w.heap.size (0 + j) _ _ (0, 0) (heap_alloc_new w _)]
  have : j = 0 := by omega
  subst this
  rfl
theorem Rd.lit2 (w : World) (o : Obj) (q : Nat) (hq : q < 4294967296) : Rd ((w.alloc o).alloc (litU q)) ((w.alloc o).alloc (litU q)).heap.size (some ⟨w.heap.size + 1, 0, none⟩) 1 1 [q] := by
  have := Rd.lit (w.alloc o) q hq
  rwa [alloc_size w o] at this
theorem Below.al {w X : World} (h : Below w.heap.size w X) (o : Obj) : Below w.heap.size w (X.alloc o) := h.alloc h.size o
theorem Below.dr {w X : World} (h : Below w.heap.size w X) : Below w.heap.size w X.drew := ⟨h.os, h.tape, h.output, h.size, h.block⟩
theorem Below.seq {w X Y : World} (h : Below w.heap.size w X) (k : Below X.heap.size X Y) : Below w.heap.size w Y := h.trans (k.mono h.size)
theorem val_one (q : Nat) : val [q] = q := by simp only [val_cons, val_nil]; omega

end
end Go.Proofs.Ytdihgmbldnekhaa
