/-
  The reference's short, Parse and Print.
-/
import Derived.Test.YtieopcchchebgaaRefSum
import Derived.Test.YtieopcchchebgaaNatBits
import Derived.Test.YtieopcchchebgaaNatText
import Derived.OwnWalk
import Derived.Deep.DeepAppendRoom
namespace Go.Proofs.Ytieopcchchebgaa
open Go.RowKit

def RetShort (w : World) (m r : Nat) (e : Ending) (w' : World) : Prop :=
  ∃ g, w.heap.size ≤ g ∧ e = .returned (.tuple #[.slice (some ⟨g, 0, none⟩) (dig m).length (dig m).length, .int .u64 (r : Int)]) ∧ Own w' g (dig m) ∧ Below w.heap.size w w'

set_option maxHeartbeats 1000000 in
theorem rshort_any (w : World) (Bd : Nat) (A : Option Addr) (n c : Nat) (xs : List Nat) (d : Nat) (h : Rd w Bd A n c xs) (hB : Bd ≤ w.heap.size) (hd0 : 0 < d) (hd : d < 4294967296) :
    Calls Try.prog 103 #[.slice A n c, .int .u64 (d : Int)] w (RetShort w (val xs / d) (val xs % d)) := by
  have hbig := h.big
  have hcap := h.cap
  have H := hide h
  clear h
  go_enter Try.func103, Try.ntmps103
  go_wp2_with (at_make; refine wpList_make_nat _ rfl _ _ rfl _ _ _ _ n rfl rfl (by omega) (by omega) (by omega) ?_; intro w1 hown hb hg)
  go_loopw [7, 8] (fun u i wr => ∃ (z : Int) (r : Nat), -1 ≤ z ∧ z < n ∧ r < d ∧ i = .int .i64 z ∧ u = .int .u64 (r : Int) ∧ ∃ os : List Nat, os.length = n ∧ val (xs.drop (z + 1).toNat) = d * val (os.drop (z + 1).toNat) + r ∧ Own wr w.heap.size os ∧ Below w.heap.size w wr) (fun _ i _ => (intOf i + 1).toNat)
  case atStart =>
    refine ⟨(n : Int) - 1, 0, by omega, by omega, hd0, rfl, rfl, List.replicate n 0, List.length_replicate, ?_, hown, hb⟩
    rw [List.drop_eq_nil_of_le (by rw [H.out.len]; omega), List.drop_eq_nil_of_le (by rw [List.length_replicate]; omega)]
    rfl
  case round =>
    obtain ⟨z, r, hz1, hz2, hr, rfl, rfl, os, hos, hval, hO, hBl⟩ := hrel
    by_cases hpos : 0 ≤ z
    · obtain ⟨k, rfl⟩ : ∃ k : Nat, z = k := ⟨z.toNat, by omega⟩
      have hk : k < n := by omega
      rw [show ((k : Int) + 1).toNat = k + 1 by omega] at hval
      have hco := hO.cell (j := k) (by omega)
      have hfo := hO.frozen k
      obtain ⟨ad, rfl, hadb, hca⟩ := (H.out.below (hBl.mono hB)).at_ hk
      have hlo := H.out.limbs k
      have hst := hide (div_step (os := xs) (os' := os) (by rw [hos, H.out.len]) (by rw [H.out.len]; omega) hval (4294967296 * r + lm xs k) rfl)
      have hq := quo_lt (s := 4294967296 * r + lm xs k) rfl hlo hr
      have hm := Nat.mod_lt (4294967296 * r + lm xs k) hd0
      have e : Hid (((r : Int) * 4294967296 + (lm xs k : Int)) / (d : Int) = (((4294967296 * r + lm xs k) / d : Nat) : Int)) := hide (by rw [Int.mul_comm]; simp)
      have e2 : Hid (((r : Int) * 4294967296 + (lm xs k : Int)) % (d : Int) = (((4294967296 * r + lm xs k) % d : Nat) : Int)) := hide (by rw [Int.mul_comm]; simp)
      replace hO := hide hO
      replace hBl := hide hBl
      clear hval
      go_wp2
      go_roundw
      case rel =>
        refine ⟨(k : Int) - 1, (4294967296 * r + lm xs k) % d, by omega, by omega, hm, rfl, by rw [e2.out], _, by simpa using hos, ?_, hO.out.put hq (by rw [e.out]; exact mod_small hq), hBl.out.setCell (Nat.le_refl _) _⟩
        rw [show ((k : Int) - 1 + 1).toNat = k by omega]
        exact hst.out
      case measure => simp [intOf]
    · have hz0 : z = -1 := by omega
      subst hz0
      have hR := hO.rd0 (c := n) (by omega) (by omega) hO.lt
      rw [hos] at hR
      obtain ⟨hv1, hv2⟩ := div_end (os := xs) (os' := os) (by simpa using hval) hr
      replace hv1 := hide hv1
      replace hv2 := hide hv2
      clear hval
      replace hR := hide hR
      replace hO := hide hO
      replace hBl := hide hBl
      go_wp2_with fail
      refine (rnorm_any _ _ _ _ _ _ hR.out (Nat.le_refl _)).mono ?_
      rw [hv1.out]
      rintro e w2 ⟨rfl, hO2, hb2, hlm⟩
      replace hO2 := hide hO2
      replace hb2 := hide hb2
      go_wp2
      go_ret2
      rw [← hv2.out]
      exact ⟨_, hBl.out.size, rfl, hO2.out, hBl.out.trans (hb2.out.mono hBl.out.size)⟩

/-- bytes in a block of the call's own that has room for cap of them -/
def byteN (x : Nat) : Value := .int .u8 (x : Int)
def OwnA (w : World) (g k cap : Nat) (E : List Nat) : Prop := E.length = k ∧ w.ownsRow 0 5 1 (.slice (some ⟨g, 0, none⟩) k cap) k (E.map byteN)
theorem OwnA.form {w : World} {g k cap : Nat} {E : List Nat} (h : OwnA w g k cap E) : ∃ cur, w.heap[g]? = some (.cells cur 5 (0, 0)) ∧ k ≤ cap ∧ cap ≤ maxLen ∧ cur.size = cap * 1 ∧ cur.toList.take (k * 1) = E.map byteN := by
  rcases h.2.2 with ⟨h', _⟩ | ⟨g', cap', cur, h', _, h1, h2, h3, h4, h5⟩
  · simp at h'
  · simp only [Value.slice.injEq, Option.some.injEq, Addr.mk.injEq, and_true, true_and] at h'
    obtain ⟨rfl, rfl⟩ := h'
    exact ⟨cur, h1, h2, h3, h4, h5⟩
theorem OwnA.lt {w : World} {g k cap : Nat} {E : List Nat} (h : OwnA w g k cap E) : g < w.heap.size := by
  obtain ⟨cur, hg, _⟩ := h.form
  exact (Array.getElem?_eq_some_iff.1 hg).1
theorem OwnA.block {w w' : World} {g k cap : Nat} {E : List Nat} (h : OwnA w g k cap E) (hb : w'.heap[g]? = w.heap[g]?) : OwnA w' g k cap E := by
  obtain ⟨cur, h1, h2, h3, h4, h5⟩ := h.form
  exact ⟨h.1, h.2.1, .inr ⟨g, cap, cur, rfl, Nat.zero_le _, hb.trans h1, h2, h3, h4, h5⟩⟩
theorem OwnA.below {w w' : World} {g k cap B : Nat} {E : List Nat} (h : OwnA w g k cap E) (hb : Below B w w') (hg : g < B) : OwnA w' g k cap E := h.block (hb.block g hg)
theorem OwnA.cell {w : World} {g k cap : Nat} {E : List Nat} (h : OwnA w g k cap E) {j : Nat} (hj : j < k) : w.cell? ⟨g, j, none⟩ = some (.int .u8 (lm E j : Int)) := by
  have hl := h.1
  rw [World.ownsRow.cellAt h.2 j (by omega), List.getElem?_map, lm_get? (by omega)]
  rfl

/-- 'make([]byte, 0, n)' -/
theorem wpList_make_room {ops : Array Oper} {rest : List Oper} {o : Oper} {a : Act} {Q : Exit → Act → World → Prop} (w : World)
    (hg : o.guard = none) (l c : Operand) (hop : o.op = Op.makeSlice 81 l c) (kl kc : IntKind) (C : Int) (n : Nat) (hl : a.eval l = .int kl 0) (hc : a.eval c = .int kc C) (hC : C = (n : Int)) (hn : n ≤ 281474976710656)
    (hK : ∀ w1, OwnA w1 w.heap.size 0 n [] → Below w.heap.size w w1 → wpList Try.prog ops Q rest (a.put o.dst (.slice (some ⟨w.heap.size, 0, none⟩) 0 n)) w1) :
    wpList Try.prog ops Q (o :: rest) a w := by
  obtain ⟨i0, hi, hz0, hz1, hz2⟩ := info_parts Try.infoByte
  refine wpList_make_own w hg l c 81 hop 0 5 i0 (.int .u8 0) 1 Try.underlying81 hi hz0 hz1 kl kc C n hl hc hC (by rw [hz2]; omega) (by simp only [maxLen]; omega) (Nat.zero_le _) ?_
  intro w1 hown hgrow
  exact hK w1 ⟨rfl, hown⟩ ((Below.refl _ _).grown hgrow (Nat.le_refl _) (by simp))

/-- 'append(b, x)', within the room -/
theorem wpList_append_byte {ops : Array Oper} {rest : List Oper} {o : Oper} {a : Act} {Q : Exit → Act → World → Prop} {w0 w2 : World} (hgd : o.guard = none) (s x : Operand)
    (ho : o.op = .call { callee := .builtin .append, args := #[s, x], argTypes := #[81, 81] })
    (g k cap : Nat) (E : List Nat) (q : Nat) (u : Int) (hs : a.eval s = .slice (some ⟨g, 0, none⟩) k cap) (hx : a.eval x = .slice (some ⟨w2.heap.size, 0, none⟩) 1 1)
    (hu : u = (q : Int)) (hown : OwnA w2 g k cap E) (hroom : k + 1 ≤ cap) (B : Nat) (hB : Below B w0 w2) (hBg : B ≤ g) (hBs : B ≤ w2.heap.size)
    (h : ∀ w', OwnA w' g (k + 1) cap (E ++ [q]) → Below B w0 w' → (w2.alloc (.cells #[.int .u8 u] 5)).grownBy w' (some g) → wpList Try.prog ops Q rest (a.put o.dst (.slice (some ⟨g, 0, none⟩) (k + 1) cap)) w') :
    wpList Try.prog ops Q (o :: rest) a (w2.alloc (.cells #[.int .u8 u] 5)) := by
  subst hu
  obtain ⟨i0, hi, hz0, hz1, hz2⟩ := info_parts Try.infoByte
  refine wpList_append_own_spare _ hgd s x 81 ho 0 5 i0 1 Try.underlying81 hi hz1 g k cap (E.map byteN) hs (World.ownsRow.alloc hown.2 _)
    ⟨w2.heap.size, 0, none⟩ 1 1 [byteN q] hx rfl ?_ ?_ hroom ?_
  · intro j u hj
    match j, hj with
    | 0, hj =>
      simp at hj; subst hj
      rw [add_zero_, cell_of_row _ w2.heap.size 0 _ _ (0, 0) (heap_alloc_new w2 _)]
      rfl
  · intro u hu; simp at hu; subst hu; rfl
  · intro w' hown' hgrow
    refine h w' ⟨by simp [hown.1], by simpa using hown'⟩ ((hB.alloc hBs _).grown hgrow (by simp; omega) (fun k hk => ?_)) hgrow
    cases hk
    exact hBg

def lenV : Value → Nat
  | .slice _ k _ => k
  | _ => 0

set_option maxHeartbeats 2000000 in
theorem rprint_any (w : World) (Bd : Nat) (A : Option Addr) (n c : Nat) (xs : List Nat) (h : Rd w Bd A n c xs) (hB : Bd ≤ w.heap.size) (hn : n ≤ 17592186044416) :
    Calls Try.prog 72 #[.slice A n c] w fun e w' => e = .returned (.string (strN (dec (val xs)))) ∧ Below w.heap.size w w' := by
  have hl : (dig (val xs)).length ≤ n := by rw [← h.len]; exact dig_len_val h.limbs
  have H := hide h
  clear h
  obtain ⟨m, hm⟩ : ∃ m, m = val xs := ⟨_, rfl⟩
  rw [← hm] at hl ⊢
  replace hm := hide hm
  obtain ⟨L, hL⟩ : ∃ L, L = (dig m).length := ⟨_, rfl⟩
  by_cases h0 : m = 0
  · have hnorm := rnorm_any w Bd A n c xs H.out hB
    rw [← hm.out, h0, show (RetOwn w 0) = (fun e w' => RetOwn w 0 e w') from rfl] at hnorm
    have hdec : Hid (strN (dec m) = ⟨#[48]⟩) := hide (by rw [h0]; rfl)
    replace hnorm := hide hnorm
    replace hm := hide hm
    clear hL hl
    go_enter Try.func72, Try.ntmps72
    go_wp2_with fail
    refine hnorm.out.mono ?_
    rintro e w1 ⟨rfl, hown, hb, hlm⟩
    rw [dig_zero]
    replace hown := hide hown
    replace hb := hide hb
    clear hlm
    go_wp2
    go_ret
    rw [hdec.out]
    exact ⟨rfl, hb.out⟩
  · rw [← hL] at hl
    have hL0 : 0 < L := by
      rw [hL]
      rcases Nat.eq_zero_or_pos (dig m).length with h | h
      · exact absurd (dig_len_zero.1 h) h0
      · exact h
    have hten : Hid (m < 10 ^ (10 * L)) := hide (by
      have h1 := (dig_len_le m L).1 (by omega)
      have h2 := pw_le_ten L
      omega)
    have hdec : Hid (dec m = ddig m) := hide (by unfold dec; rw [if_neg h0])
    replace hL := hide hL
    replace h0 := hide h0
    have hnorm := fun (W : World) (hR : Rd W Bd A n c xs) (hb : Bd ≤ W.heap.size) => rnorm_any W Bd A n c xs hR hb
    rw [← hm.out] at hnorm
    replace hnorm := hide hnorm
    go_enter Try.func72, Try.ntmps72
    go_wp2_with fail
    refine (hnorm.out w H.out hB).mono ?_
    rintro e w1 ⟨rfl, hown, hb, hlm⟩
    rw [← hL.out] at hlm ⊢
    replace hown := hide hown
    have hs1 : w.heap.size < w1.heap.size := hown.out.lt
    replace hb := hide hb
    go_wp2_with (at_make; refine wpList_make_room _ rfl _ _ rfl _ _ _ (10 * L) rfl rfl (by omega) (by omega) ?_; intro w2 hownA hb2)
    have hgb : w.heap.size < w1.heap.size := hs1
    generalize w1.heap.size = gb at *
    have hstart := hide (show Own w2 w.heap.size (dig m) ∧ OwnA w2 gb 0 (10 * L) [] ∧ Below w.heap.size w w2 from ⟨hown.out.below hb2 hgb, hownA, hb.out.trans (hb2.mono (by omega))⟩)
    clear hb2 hownA hown hb
    go_loopw [0, 3] (fun left b wr => ∃ (V Lv k ga : Nat) (E : List Nat), left = .slice (some ⟨ga, 0, none⟩) Lv Lv ∧ b = .slice (some ⟨gb, 0, none⟩) k (10 * L) ∧ Hid (Lv = (dig V).length) ∧ Lv ≤ L ∧ (0 < Lv ↔ V ≠ 0) ∧ Hid (PrVal m V E.reverse) ∧ k ≤ 10 * L ∧ ga ≠ gb ∧ Own wr ga (dig V) ∧ OwnA wr gb k (10 * L) E ∧ Below w.heap.size w wr) (fun _ b _ => 10 * L - lenV b)
    case atStart => exact ⟨m, L, 0, w.heap.size, [], rfl, rfl, hL, by omega, ⟨fun _ => h0.out, fun _ => hL0⟩, hide (by simp [PrVal]), by omega, by omega, hstart.out.1, hstart.out.2.1, hstart.out.2.2⟩
    case round =>
      obtain ⟨V, Lv, k, ga, E, rfl, rfl, hLv, h1, h4, hV, hk, hgne, hO, hOA, hBl⟩ := hrel
      have hEl := hide hOA.1
      have hgbl := hOA.lt
      by_cases hV0 : V = 0
      · have hLz : Lv = 0 := by
          rcases Nat.eq_zero_or_pos Lv with h | h
          · exact h
          · exact absurd hV0 (h4.1 h)
        have hD : Hid (dec m = E.reverse) := hide (by
          rw [hdec.out]
          have := hV.out
          rw [hV0] at this
          unfold PrVal at this
          rw [this, ddig_zero]; simp)
        subst hLz
        clear hO h4
        replace hV0 := hide hV0
        replace hOA := hide hOA
        replace hBl := hide hBl
        go_wp2_with (at_make; refine wpList_make_bytes _ rfl _ _ rfl _ _ _ _ k rfl rfl (by omega) (by omega) (by omega) ?_; intro w2 hownB hb2)
        have hgo : gb < wr.heap.size := hgbl
        have hgo2 : w.heap.size ≤ wr.heap.size := hBl.out.size
        have hOA2 := hide (hOA.out.below hb2 hgo)
        have hBl2 := hide (hBl.out.trans (hb2.mono hgo2))
        clear hOA hBl hb2
        generalize wr.heap.size = go at *
        go_loopw [7] (fun i wr => ∃ (j : Nat), j ≤ k ∧ i = .int .i64 (j : Int) ∧ OwnA wr gb k (10 * L) E ∧ OwnB wr go k (k - j) (E.take j).reverse ∧ Below w.heap.size w wr) (fun i _ => k - (intOf i).toNat)
        case atStart => exact ⟨0, by omega, rfl, hOA2.out, by simpa using hownB, hBl2.out⟩
        case round =>
          obtain ⟨j, hj, rfl, hOA, hOB, hBl⟩ := hrel
          by_cases hjk : j < k
          · have hc1 := hOA.cell hjk
            obtain ⟨x0, hc2⟩ := hOB.cell (j := k - 1 - j) (by omega)
            have hfo := hOB.frozen (k - 1 - j)
            have hix : ((k : Int) - 1 - (j : Int)) = ((k - 1 - j : Nat) : Int) := by omega
            replace hOA := hide hOA
            replace hOB := hide hOB
            replace hBl := hide hBl
            go_wp2
            go_roundw
            case rel =>
              refine ⟨j + 1, by omega, by go_num, hOA.out.block (Below.heap_setCell _ _ _ _ (by simp; omega)), ?_, hBl.out.setCell (by simp; omega) _⟩
              have := hOB.out
              rw [show k - j = (k - 1 - j) + 1 by omega] at this
              have h3 := this.put (x := lm E j) rfl
              rw [show k - (j + 1) = k - 1 - j by omega, List.take_add_one, lm_get? (by rw [hEl.out]; omega)]
              simpa using h3
            case measure => simp [intOf]; omega
          · have hjk2 : j = k := by omega
            subst hjk2
            rw [Nat.sub_self, List.take_of_length_le (by rw [hEl.out]; exact Nat.le_refl _), ← hD.out] at hOB
            have hlenB := hOB.len
            have hcv := run_convert_bytes_arg (P := Try.prog) wr 81 5 Try.underlying81 Try.underlying5 go 0 j j ((dec m).map fun x : Nat => (x : Int)) (by rw [List.length_map]; omega) (fun i hi => by
              rw [hOB.digit (by omega)]
              simp [lm, show i < (dec m).length by omega]) 9 Try.underlying9
            replace hOA := hide hOA
            replace hOB := hide hOB
            replace hBl := hide hBl
            clear hlenB
            go_wp2
            go_ret
            exact ⟨rfl, hBl.out⟩
        
      · have hLp := h4.2 hV0
        have hR := hO.rd0 (c := Lv) (by rw [← hLv.out]; exact Nat.le_refl _) (by omega) (B := wr.heap.size) hO.lt
        rw [← hLv.out] at hR
        have hga := hO.lt
        have hsh := hide (rshort_any wr wr.heap.size (some ⟨ga, 0, none⟩) Lv Lv (dig V) 10 hR (Nat.le_refl _) (by omega) (by omega))
        have hroom : k + 1 ≤ 10 * L := by
          have := hV.out.room (N := 10 * L) (st := 10 * L - k) hten.out (by rw [List.length_reverse, hEl.out]; omega) hV0
          omega
        have hnext := hide (show PrVal m (V / 10) (E ++ [48 + V % 10]).reverse by
          have := hV.out
          unfold PrVal at this ⊢
          rw [this, ddig_pos hV0]; simp)
        have hlen : (dig (V / 10)).length ≤ Lv := by rw [hLv.out]; exact dig_len_mono (Nat.div_le_self _ _)
        clear hO hR
        replace hOA := hide hOA
        replace hBl := hide hBl
        replace h4 := hide h4
        replace hV0 := hide hV0
        go_wp2_with fail
        refine hsh.out.mono ?_
        rw [val_dig]
        rintro e w3 ⟨g3, hg3, rfl, hO3, hb3⟩
        obtain ⟨U, hU⟩ : ∃ U, U = V / 10 := ⟨_, rfl⟩
        obtain ⟨r, hr⟩ : ∃ r, r = V % 10 := ⟨_, rfl⟩
        have hr10 : r < 10 := by omega
        rw [← hU] at hO3 hnext hlen ⊢
        rw [← hr] at hnext ⊢
        obtain ⟨Lu, hLu⟩ : ∃ Lu, Lu = (dig U).length := ⟨_, rfl⟩
        rw [← hLu] at hlen ⊢
        have hU4 : 0 < Lu ↔ U ≠ 0 := by
          have := dig_len_zero (n := U)
          rw [← hLu] at this
          omega
        have hOA3 := hide (hOA.out.below hb3 hgbl)
        have hBl3 := hide (hBl.out.trans (hb3.mono hBl.out.size))
        have hs3 : w.heap.size ≤ w3.heap.size := hBl3.out.size
        have hg3l := hO3.lt
        replace hU4 := hide hU4
        replace hLu := hide hLu
        replace hO3 := hide hO3
        clear hU hr hsh hOA hBl hb3
        go_wp2_with (with_reducible refine wpList_append_byte rfl (.tmp 25) (.tmp 29) rfl gb k (10 * L) E (48 + r) _ rfl rfl (by omega) hOA3.out hroom w.heap.size hBl3.out (by omega) hs3 ?_; intro w4 hOA4 hBl4 hgr4)
        go_roundw
        case rel => exact ⟨U, Lu, k + 1, g3, E ++ [48 + r], rfl, by go_num, hLu, by omega, hU4.out, hnext, by omega, by omega, (hO3.out.alloc _).grown hgr4 (by simp; omega), hOA4, hBl4⟩
        case measure => simp [lenV]; omega

end Go.Proofs.Ytieopcchchebgaa
