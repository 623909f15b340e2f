/-
  CutStr, Parse3, Print3.
-/
import Derived.Test.YtdihgmbldnekhaaRatA
import Derived.Test.YtdihgmbldnekhaaIntPar
import Derived.Lib.Strings
import Derived.Lib.Slices
import Derived.Lib.Walk
import Derived.Lib.Bytealg
import Derived.Lib.IndexLaws
import Derived.Test.YtdihgmbldnekhaaRatB
import Derived.Test.YtdihgmbldnekhaaLaw3s
namespace Go.Proofs.Ytdihgmbldnekhaa
section
open Go.RowKit

def SlashAt (s : ByteArray) (i : Nat) : Prop := i < s.size ∧ bt s i = 47 ∧ ∀ j, j < i → bt s j ≠ 47
def NoSlash (s : ByteArray) : Prop := ∀ j, j < s.size → bt s j ≠ 47
theorem slash_upto (s : ByteArray) : ∀ n, n ≤ s.size → (∀ j, j < n → bt s j ≠ 47) ∨ ∃ i, i < n ∧ SlashAt s i
  | 0, _ => Or.inl fun j hj => by omega
  | n + 1, hn => by
    rcases slash_upto s n (by omega) with h | ⟨i, hi, h⟩
    · by_cases hb : bt s n = 47
      · exact Or.inr ⟨n, by omega, by omega, hb, h⟩
      · exact Or.inl fun j hj => by
          rcases Nat.lt_succ_iff_lt_or_eq.1 hj with h1 | h1
          · exact h j h1
          · rw [h1]; exact hb
    · exact Or.inr ⟨i, by omega, h⟩
theorem slash_cases (s : ByteArray) : NoSlash s ∨ ∃ i, SlashAt s i := by
  rcases slash_upto s s.size (Nat.le_refl _) with h | ⟨i, _, h⟩
  · exact Or.inl h
  · exact Or.inr ⟨i, h⟩
theorem bt47 {s : ByteArray} {k : Nat} (hk : k < s.size) : s.data.toList[k]? = some 47 ↔ bt s k = 47 := by
  have h1 : s.data.toList[k]? = some s[k] := by
    rw [Array.getElem?_toList]
    exact Array.getElem?_eq_getElem hk
  have h2 : bt s k = s[k].toNat := by unfold bt; rw [dif_pos hk]
  rw [h1, h2, Option.some.injEq]
  constructor
  · intro h; rw [h]; rfl
  · intro h; exact UInt8.toNat_inj.1 h
theorem ix_slash {s : ByteArray} {i : Nat} (h : SlashAt s i) : Lib.indexByte s.data.toList 47 = i := by
  have hg := Lib.indexByte_ge s.data.toList 47
  have h0 := (bt47 h.1).2 h.2.1
  by_cases hn : Lib.indexByte s.data.toList 47 = -1
  · exact absurd h0 (Lib.indexByte_none hn i)
  · obtain ⟨o, ho⟩ : ∃ o : Nat, Lib.indexByte s.data.toList 47 = o := ⟨(Lib.indexByte s.data.toList 47).toNat, by omega⟩
    obtain ⟨h1, h2⟩ := Lib.indexByte_some ho
    have hos : o < s.size := by
      have := (List.getElem?_eq_some_iff.1 h1).1
      rwa [Array.length_toList] at this
    have h3 := (bt47 hos).1 h1
    rcases Nat.lt_trichotomy o i with hlt | rfl | hlt
    · exact absurd h3 (h.2.2 o hlt)
    · exact ho
    · exact absurd h0 (h2 i hlt)
theorem ix_none {s : ByteArray} (h : NoSlash s) : Lib.indexByte s.data.toList 47 = -1 := by
  have hg := Lib.indexByte_ge s.data.toList 47
  by_cases hn : Lib.indexByte s.data.toList 47 = -1
  · exact hn
  · obtain ⟨o, ho⟩ : ∃ o : Nat, Lib.indexByte s.data.toList 47 = o := ⟨(Lib.indexByte s.data.toList 47).toNat, by omega⟩
    obtain ⟨h1, _⟩ := Lib.indexByte_some ho
    have hos : o < s.size := by
      have := (List.getElem?_eq_some_iff.1 h1).1
      rwa [Array.length_toList] at this
    exact absurd ((bt47 hos).1 h1) (h o hos)

end

section
open Go.RowKit


/-- what Parse hands back -/
def RetRV (w : World) (q : Rat) (k : Int) (e : Ending) (w' : World) : Prop :=
  ∃ A c B d, e = .returned (.tuple #[.agg #[.bool (zneg q.num), .slice A (dig (zmag q.num)).length c, .slice B (dig q.den).length d], .int .i64 k]) ∧
    Rd w' w'.heap.size A (dig (zmag q.num)).length c (dig (zmag q.num)) ∧ Rd w' w'.heap.size B (dig q.den).length d (dig q.den) ∧ Below w.heap.size w w'
theorem RetRV.box {w w2 : World} {q : Rat} {k : Int} {A B B1 B2 : Option Addr} {c d n1 d1 n2 d2 g : Nat} {b : Bool} (hb : Below w.heap.size w w2) (hg : w.heap.size ≤ g)
    (hc0 : w2.cell? ⟨g, 0, none⟩ = some (.bool b)) (hc1 : w2.cell? ⟨g, 1, none⟩ = some (.slice B1 n1 d1)) (hc2 : w2.cell? ⟨g, 2, none⟩ = some (.slice B2 n2 d2))
    (R : Rd w2 w2.heap.size A (dig (zmag q.num)).length c (dig (zmag q.num))) (R' : Rd w2 w2.heap.size B (dig q.den).length d (dig q.den)) :
    RetRV w q k (.returned (.tuple #[.agg #[.bool (zneg q.num), .slice A (dig (zmag q.num)).length c, .slice B (dig q.den).length d], .int .i64 k])) (((w2.setCell ⟨g, 0, none⟩ (.bool (zneg q.num))).setCell ⟨g, 1, none⟩ (.slice A (dig (zmag q.num)).length c)).setCell ⟨g, 2, none⟩ (.slice B (dig q.den).length d)) :=
  ⟨A, c, B, d, rfl, by simpa using far3 hc0 hc1 hc2 _ _ _ R, by simpa using far3 hc0 hc1 hc2 _ _ _ R', ((hb.setCell hg _).setCell hg _).setCell hg _⟩

end

section
open Go.RowKit


/-- what Print writes -/
def qstr (q : Rat) : ByteArray := if q.den = 1 then zstr q.num else zstr q.num ++ (⟨#[47]⟩ : ByteArray) ++ strN (dec q.den)
theorem qstr_int {q : Rat} (h : q.den = 1) : qstr q = zstr q.num := if_pos h
theorem qstr_frac {q : Rat} (h : q.den ≠ 1) : qstr q = zstr q.num ++ (⟨#[47]⟩ : ByteArray) ++ strN (dec q.den) := if_neg h
theorem zstr_size (z : Int) : (zstr z).size ≤ 1 + (dec (zmag z)).length := by
  unfold zstr
  split
  · rw [minus_size, strN_size]; omega
  · rw [strN_size]; omega
theorem cmp_b {w : World} {Bd : Nat} {A A' : Option Addr} {n c n' c' : Nat} {xs ys : List Nat} {k : Int} (hx : Rd w Bd A n c xs) (hy : Rd w Bd A' n' c' ys) (hk : cmpN (val xs) (val ys) = k) :
    Calls Try.prog 76 #[.slice A n c, .slice A' n' c'] w (RetB w (.int .i64 k)) := by
  rw [← hk]
  exact (cmp_any w Bd A A' n c n' c' xs ys hx hy).mono fun e w' ⟨h1, h2⟩ => ⟨h1, below_q h2⟩
theorem cmp_one {q : Rat} (h : q.den = 1) : cmpN (val (dig q.den)) (val (dig 1)) = 0 := by rw [h]; exact cmpN_eq rfl
theorem cmp_more {q : Rat} (h : q.den ≠ 1) : cmpN (val (dig q.den)) (val (dig 1)) = 1 := by rw [val_dig, val_dig]; exact cmpN_gt (by have := q.den_nz; omega)
theorem of1 (w : World) : Calls Try.prog 53 #[.int .u64 1] w (RetNat w 1) := of_any w 1 (by omega)

set_option maxHeartbeats 4000000 in
theorem pprint_int {w : World} {Bd : Nat} {A_a : Option Addr} {n_a c_a : Nat} {x_a : List Nat} {s_a : Bool} {A_ad : Option Addr} {n_ad c_ad : Nat} {x_ad : List Nat} (h_a : Rd w Bd A_a n_a c_a x_a) (g_a : n_a ≤ 1000000000) (h_ad : Rd w Bd A_ad n_ad c_ad x_ad) (g_ad : n_ad ≤ 1000000000) (hB : Bd ≤ w.heap.size) {q : Rat} (hq : qv s_a (val x_a) (val x_ad) = q) (h1 : q.den = 1) :
    Calls Try.prog 74 #[.agg #[.bool s_a, .slice A_a n_a c_a, .slice A_ad n_ad c_ad]] w (RetB w (.string (qstr q))) := by
  have sz := sz_rd h_a h_ad hq g_a g_ad
  have len1 := dec_len ((dig_len_le _ _).1 sz.1)
  have len2 := dec_len ((dig_len_le _ _).1 sz.2)
  have gn : (dig (zmag q.num)).length ≤ 17592186044416 ∧ (dig q.den).length ≤ 17592186044416 := by omega
  replace gn := hide gn
  rw [qstr_int h1]
  obtain ⟨zs, e_zs⟩ : ∃ zs, zstr q.num = zs := ⟨_, rfl⟩
  rw [e_zs]
  have e_z : zstr (iv (zneg q.num) (val (dig (zmag q.num)))) = zs := by rw [ivz]; exact e_zs
  replace e_z := hide e_z
  have e_c : cmpN (val (dig q.den)) (val (dig 1)) = 0 := cmp_one h1
  replace e_c := hide e_c
  clear sz len1 len2 h1 e_zs
  replace hq := hide hq
  obtain ⟨W, hW⟩ : ∃ W, W = (w.alloc (.cells #[.bool s_a, .slice A_a n_a c_a, .slice A_ad n_ad c_ad] 27)) := ⟨_, rfl⟩
  have b_a : Box3 W (w.heap.size) (.bool s_a) (.slice A_a n_a c_a) (.slice A_ad n_ad c_ad) := by rw [hW]; exact (Box3.new w _ _ _ rfl)
  have hwW : Below w.heap.size w W := by rw [hW]; exact ((Below.refl _ _).alloc (Nat.le_refl _) _)
  have R_a := hide (Rd.upto h_a hwW hB)
  clear h_a
  have R_ad := hide (Rd.upto h_ad hwW hB)
  clear h_ad
  have B := hide hwW
  clear hwW
  clear hB
  have U0 : Below W.heap.size W W := Below.refl _ _
  have c_a0 := b_a.at0 b_a.lt_size (Nat.le_refl _)
  have c_a1 := b_a.at1 b_a.lt_size (Nat.le_refl _)
  have c_a2 := b_a.at2 b_a.lt_size (Nat.le_refl _)
  have f_a0 := b_a.free0 b_a.lt_size (Nat.le_refl _)
  have f_a1 := b_a.free1 b_a.lt_size (Nat.le_refl _)
  have f_a2 := b_a.free2 b_a.lt_size (Nat.le_refl _)
  have l_a := b_a.lt b_a.lt_size (Nat.le_refl _)
  replace b_a := hide b_a
  go_enter Try.func74, Try.ntmps74
  go_wp2_with fail
  rw [← hW]
  clear hW
  have ge_a := hide (Nat.le_refl w.heap.size)
  refine (pnorm_any R_a.out (by omega) R_ad.out (by omega) (Nat.le_refl _) hq.out).mono ?_
  rintro e w1 ⟨A_q, c_q, A_qd, c_qd, rfl, R_q, R_qd, hb⟩
  replace R_a := hide (Rd.then_ R_a.out hb)
  replace R_ad := hide (Rd.then_ R_ad.out hb)
  have U1 : Below W.heap.size W w1 := Below.then_ U0 hb
  replace B := hide (Below.then_ B.out hb)
  replace R_q := hide R_q
  replace R_qd := hide R_qd
  clear hb
  go_wp2_with fail
  obtain ⟨V2, hV⟩ : ∃ V, V = (((w1.setCell ⟨w.heap.size, 0, none⟩ (.bool (zneg q.num))).setCell ⟨w.heap.size, 1, none⟩ (.slice A_q (dig (zmag q.num)).length c_q)).setCell ⟨w.heap.size, 2, none⟩ (.slice A_qd (dig q.den).length c_qd)) := ⟨_, rfl⟩
  rw [← hV]
  have b_a' : Box3 V2 w.heap.size (.bool (zneg q.num)) (.slice A_q (dig (zmag q.num)).length c_q) (.slice A_qd (dig q.den).length c_qd) := by rw [hV]; exact Box3.set (Box3.keep b_a.out U1) _ _ _ 
  replace R_a : Hid (Rd V2 V2.heap.size A_a n_a c_a x_a) := hide (by rw [hV]; simpa using far3 (c_a0 _ U1) (c_a1 _ U1) (c_a2 _ U1) _ _ _ R_a.out)
  replace R_ad : Hid (Rd V2 V2.heap.size A_ad n_ad c_ad x_ad) := hide (by rw [hV]; simpa using far3 (c_a0 _ U1) (c_a1 _ U1) (c_a2 _ U1) _ _ _ R_ad.out)
  replace R_q : Hid (Rd V2 V2.heap.size A_q (dig (zmag q.num)).length c_q (dig (zmag q.num))) := hide (by rw [hV]; simpa using far3 (c_a0 _ U1) (c_a1 _ U1) (c_a2 _ U1) _ _ _ R_q.out)
  replace R_qd : Hid (Rd V2 V2.heap.size A_qd (dig q.den).length c_qd (dig q.den)) := hide (by rw [hV]; simpa using far3 (c_a0 _ U1) (c_a1 _ U1) (c_a2 _ U1) _ _ _ R_qd.out)
  replace B : Hid (Below w.heap.size w V2) := hide (by rw [hV]; exact (((B.out.setCell ge_a.out _).setCell ge_a.out _).setCell ge_a.out _))
  clear hV
  clear c_a0 c_a1 c_a2 f_a0 f_a1 f_a2 l_a
  replace b_a := hide b_a'
  clear b_a'
  have U3 : Below V2.heap.size V2 V2 := Below.refl _ _
  have c_a0 := b_a.out.at0 b_a.out.lt_size (Nat.le_refl _)
  have c_a1 := b_a.out.at1 b_a.out.lt_size (Nat.le_refl _)
  have c_a2 := b_a.out.at2 b_a.out.lt_size (Nat.le_refl _)
  have f_a0 := b_a.out.free0 b_a.out.lt_size (Nat.le_refl _)
  have f_a1 := b_a.out.free1 b_a.out.lt_size (Nat.le_refl _)
  have f_a2 := b_a.out.free2 b_a.out.lt_size (Nat.le_refl _)
  have l_a := b_a.out.lt b_a.out.lt_size (Nat.le_refl _)
  refine (iprint_any _ _ _ _ _ _ _ R_q.out (Nat.le_refl _) gn.out.1).mono ?_
  rw [e_z.out]
  rintro e w2 ⟨rfl, hb⟩
  replace R_a := hide (Rd.then_ R_a.out hb)
  replace R_ad := hide (Rd.then_ R_ad.out hb)
  replace R_q := hide (Rd.then_ R_q.out hb)
  replace R_qd := hide (Rd.then_ R_qd.out hb)
  have U4 : Below V2.heap.size V2 w2 := Below.then_ U3 hb
  replace B := hide (Below.then_ B.out hb)
  clear hb
  go_wp2_with fail
  have hd := Below.drw_ w2
  replace R_a := hide (Rd.then_ R_a.out hd)
  replace R_ad := hide (Rd.then_ R_ad.out hd)
  replace R_q := hide (Rd.then_ R_q.out hd)
  replace R_qd := hide (Rd.then_ R_qd.out hd)
  have U5 : Below V2.heap.size V2 (w2.drew) := Below.then_ U4 hd
  replace B := hide (Below.then_ B.out hd)
  clear hd
  have tok1 : True := trivial
  go_region_held3 (fun w' => Below V2.heap.size V2 w') (assumption)
    (first
      | (go_at_call 53; (have _t := tok1; (with_reducible refine (of1 _).mono ?_); rintro e w3 ⟨A_o, c_o, rfl, R_o, hb⟩; replace R_a := hide (Rd.then_ R_a.out hb); replace R_ad := hide (Rd.then_ R_ad.out hb); replace R_q := hide (Rd.then_ R_q.out hb); replace R_qd := hide (Rd.then_ R_qd.out hb); have U6 : Below V2.heap.size V2 w3 := Below.then_ U5 hb; replace B := hide (Below.then_ B.out hb); replace R_o := hide R_o; clear hb; have tok2 : True := trivial; clear _t tok1))
      | (go_at_call 76; (have _t := tok2; (with_reducible refine (cmp_b R_qd.out R_o.out e_c.out).mono ?_); rintro e w4 ⟨rfl, hb⟩; replace R_a := hide (Rd.then_ R_a.out hb); replace R_ad := hide (Rd.then_ R_ad.out hb); replace R_q := hide (Rd.then_ R_q.out hb); replace R_qd := hide (Rd.then_ R_qd.out hb); replace R_o := hide (Rd.then_ R_o.out hb); have U7 : Below V2.heap.size V2 w4 := Below.then_ U6 hb; replace B := hide (Below.then_ B.out hb); clear hb; have tok3 : True := trivial; clear _t tok2)))
  clear tok3
  go_wp2
  go_ret
  exact ⟨rfl, B.out⟩

set_option maxHeartbeats 4000000 in
theorem pprint_frac {w : World} {Bd : Nat} {A_a : Option Addr} {n_a c_a : Nat} {x_a : List Nat} {s_a : Bool} {A_ad : Option Addr} {n_ad c_ad : Nat} {x_ad : List Nat} (h_a : Rd w Bd A_a n_a c_a x_a) (g_a : n_a ≤ 1000000000) (h_ad : Rd w Bd A_ad n_ad c_ad x_ad) (g_ad : n_ad ≤ 1000000000) (hB : Bd ≤ w.heap.size) {q : Rat} (hq : qv s_a (val x_a) (val x_ad) = q) (h1 : q.den ≠ 1) :
    Calls Try.prog 74 #[.agg #[.bool s_a, .slice A_a n_a c_a, .slice A_ad n_ad c_ad]] w (RetB w (.string (qstr q))) := by
  have sz := sz_rd h_a h_ad hq g_a g_ad
  have len1 := dec_len ((dig_len_le _ _).1 sz.1)
  have len2 := dec_len ((dig_len_le _ _).1 sz.2)
  have gn : (dig (zmag q.num)).length ≤ 17592186044416 ∧ (dig q.den).length ≤ 17592186044416 := by omega
  replace gn := hide gn
  rw [qstr_frac h1]
  have sz1 := zstr_size q.num
  have sz2 := strN_size (dec q.den)
  obtain ⟨zs, e_zs⟩ : ∃ zs, zstr q.num = zs := ⟨_, rfl⟩
  obtain ⟨ds, e_ds⟩ : ∃ ds, strN (dec q.den) = ds := ⟨_, rfl⟩
  rw [e_zs] at sz1
  rw [e_ds] at sz2
  have hs1 : ¬ 9223372036854775807 < zs.size + 1 := by omega
  have hs2 : ¬ 9223372036854775807 < zs.size + 1 + ds.size := by omega
  have e_ds2 : strN (dec (val (dig q.den))) = ds := by rw [val_dig]; exact e_ds
  replace e_ds2 := hide e_ds2
  rw [e_zs, e_ds]
  clear sz1 sz2 e_ds
  have e_z : zstr (iv (zneg q.num) (val (dig (zmag q.num)))) = zs := by rw [ivz]; exact e_zs
  replace e_z := hide e_z
  have e_c : cmpN (val (dig q.den)) (val (dig 1)) = 1 := cmp_more h1
  replace e_c := hide e_c
  clear sz len1 len2 h1 e_zs
  replace hq := hide hq
  obtain ⟨W, hW⟩ : ∃ W, W = (w.alloc (.cells #[.bool s_a, .slice A_a n_a c_a, .slice A_ad n_ad c_ad] 27)) := ⟨_, rfl⟩
  have b_a : Box3 W (w.heap.size) (.bool s_a) (.slice A_a n_a c_a) (.slice A_ad n_ad c_ad) := by rw [hW]; exact (Box3.new w _ _ _ rfl)
  have hwW : Below w.heap.size w W := by rw [hW]; exact ((Below.refl _ _).alloc (Nat.le_refl _) _)
  have R_a := hide (Rd.upto h_a hwW hB)
  clear h_a
  have R_ad := hide (Rd.upto h_ad hwW hB)
  clear h_ad
  have B := hide hwW
  clear hwW
  clear hB
  have U0 : Below W.heap.size W W := Below.refl _ _
  have c_a0 := b_a.at0 b_a.lt_size (Nat.le_refl _)
  have c_a1 := b_a.at1 b_a.lt_size (Nat.le_refl _)
  have c_a2 := b_a.at2 b_a.lt_size (Nat.le_refl _)
  have f_a0 := b_a.free0 b_a.lt_size (Nat.le_refl _)
  have f_a1 := b_a.free1 b_a.lt_size (Nat.le_refl _)
  have f_a2 := b_a.free2 b_a.lt_size (Nat.le_refl _)
  have l_a := b_a.lt b_a.lt_size (Nat.le_refl _)
  replace b_a := hide b_a
  go_enter Try.func74, Try.ntmps74
  go_wp2_with fail
  rw [← hW]
  clear hW
  have ge_a := hide (Nat.le_refl w.heap.size)
  refine (pnorm_any R_a.out (by omega) R_ad.out (by omega) (Nat.le_refl _) hq.out).mono ?_
  rintro e w1 ⟨A_q, c_q, A_qd, c_qd, rfl, R_q, R_qd, hb⟩
  replace R_a := hide (Rd.then_ R_a.out hb)
  replace R_ad := hide (Rd.then_ R_ad.out hb)
  have U1 : Below W.heap.size W w1 := Below.then_ U0 hb
  replace B := hide (Below.then_ B.out hb)
  replace R_q := hide R_q
  replace R_qd := hide R_qd
  clear hb
  go_wp2_with fail
  obtain ⟨V2, hV⟩ : ∃ V, V = (((w1.setCell ⟨w.heap.size, 0, none⟩ (.bool (zneg q.num))).setCell ⟨w.heap.size, 1, none⟩ (.slice A_q (dig (zmag q.num)).length c_q)).setCell ⟨w.heap.size, 2, none⟩ (.slice A_qd (dig q.den).length c_qd)) := ⟨_, rfl⟩
  rw [← hV]
  have b_a' : Box3 V2 w.heap.size (.bool (zneg q.num)) (.slice A_q (dig (zmag q.num)).length c_q) (.slice A_qd (dig q.den).length c_qd) := by rw [hV]; exact Box3.set (Box3.keep b_a.out U1) _ _ _ 
  replace R_a : Hid (Rd V2 V2.heap.size A_a n_a c_a x_a) := hide (by rw [hV]; simpa using far3 (c_a0 _ U1) (c_a1 _ U1) (c_a2 _ U1) _ _ _ R_a.out)
  replace R_ad : Hid (Rd V2 V2.heap.size A_ad n_ad c_ad x_ad) := hide (by rw [hV]; simpa using far3 (c_a0 _ U1) (c_a1 _ U1) (c_a2 _ U1) _ _ _ R_ad.out)
  replace R_q : Hid (Rd V2 V2.heap.size A_q (dig (zmag q.num)).length c_q (dig (zmag q.num))) := hide (by rw [hV]; simpa using far3 (c_a0 _ U1) (c_a1 _ U1) (c_a2 _ U1) _ _ _ R_q.out)
  replace R_qd : Hid (Rd V2 V2.heap.size A_qd (dig q.den).length c_qd (dig q.den)) := hide (by rw [hV]; simpa using far3 (c_a0 _ U1) (c_a1 _ U1) (c_a2 _ U1) _ _ _ R_qd.out)
  replace B : Hid (Below w.heap.size w V2) := hide (by rw [hV]; exact (((B.out.setCell ge_a.out _).setCell ge_a.out _).setCell ge_a.out _))
  clear hV
  clear c_a0 c_a1 c_a2 f_a0 f_a1 f_a2 l_a
  replace b_a := hide b_a'
  clear b_a'
  have U3 : Below V2.heap.size V2 V2 := Below.refl _ _
  have c_a0 := b_a.out.at0 b_a.out.lt_size (Nat.le_refl _)
  have c_a1 := b_a.out.at1 b_a.out.lt_size (Nat.le_refl _)
  have c_a2 := b_a.out.at2 b_a.out.lt_size (Nat.le_refl _)
  have f_a0 := b_a.out.free0 b_a.out.lt_size (Nat.le_refl _)
  have f_a1 := b_a.out.free1 b_a.out.lt_size (Nat.le_refl _)
  have f_a2 := b_a.out.free2 b_a.out.lt_size (Nat.le_refl _)
  have l_a := b_a.out.lt b_a.out.lt_size (Nat.le_refl _)
  refine (iprint_any _ _ _ _ _ _ _ R_q.out (Nat.le_refl _) gn.out.1).mono ?_
  rw [e_z.out]
  rintro e w2 ⟨rfl, hb⟩
  replace R_a := hide (Rd.then_ R_a.out hb)
  replace R_ad := hide (Rd.then_ R_ad.out hb)
  replace R_q := hide (Rd.then_ R_q.out hb)
  replace R_qd := hide (Rd.then_ R_qd.out hb)
  have U4 : Below V2.heap.size V2 w2 := Below.then_ U3 hb
  replace B := hide (Below.then_ B.out hb)
  clear hb
  go_wp2_with fail
  have hd := Below.drw_ w2
  replace R_a := hide (Rd.then_ R_a.out hd)
  replace R_ad := hide (Rd.then_ R_ad.out hd)
  replace R_q := hide (Rd.then_ R_q.out hd)
  replace R_qd := hide (Rd.then_ R_qd.out hd)
  have U5 : Below V2.heap.size V2 (w2.drew) := Below.then_ U4 hd
  replace B := hide (Below.then_ B.out hd)
  clear hd
  have tok1 : True := trivial
  go_region_held3 (fun w' => Below V2.heap.size V2 w') (assumption)
    (first
      | (go_at_call 53; (have _t := tok1; (with_reducible refine (of1 _).mono ?_); rintro e w3 ⟨A_o, c_o, rfl, R_o, hb⟩; replace R_a := hide (Rd.then_ R_a.out hb); replace R_ad := hide (Rd.then_ R_ad.out hb); replace R_q := hide (Rd.then_ R_q.out hb); replace R_qd := hide (Rd.then_ R_qd.out hb); have U6 : Below V2.heap.size V2 w3 := Below.then_ U5 hb; replace B := hide (Below.then_ B.out hb); replace R_o := hide R_o; clear hb; have tok2 : True := trivial; clear _t tok1))
      | (go_at_call 76; (have _t := tok2; (with_reducible refine (cmp_b R_qd.out R_o.out e_c.out).mono ?_); rintro e w4 ⟨rfl, hb⟩; replace R_a := hide (Rd.then_ R_a.out hb); replace R_ad := hide (Rd.then_ R_ad.out hb); replace R_q := hide (Rd.then_ R_q.out hb); replace R_qd := hide (Rd.then_ R_qd.out hb); replace R_o := hide (Rd.then_ R_o.out hb); have U7 : Below V2.heap.size V2 w4 := Below.then_ U6 hb; replace B := hide (Below.then_ B.out hb); clear hb; have tok3 : True := trivial; clear _t tok2)))
  clear tok3
  go_wp2_with fail
  refine (print_any _ _ _ _ _ _ R_qd.out (Nat.le_refl _) gn.out.2).mono ?_
  rw [e_ds2.out]
  rintro e w5 ⟨rfl, hb⟩
  replace R_a := hide (Rd.then_ R_a.out hb)
  replace R_ad := hide (Rd.then_ R_ad.out hb)
  replace R_q := hide (Rd.then_ R_q.out hb)
  replace R_qd := hide (Rd.then_ R_qd.out hb)
  replace R_o := hide (Rd.then_ R_o.out hb)
  have U8 : Below V2.heap.size V2 w5 := Below.then_ U7 hb
  replace B := hide (Below.then_ B.out hb)
  clear hb
  go_wp2
  go_ret
  exact ⟨rfl, B.out⟩

theorem pprint3_any {w : World} {Bd : Nat} {A_a : Option Addr} {n_a c_a : Nat} {x_a : List Nat} {s_a : Bool} {A_ad : Option Addr} {n_ad c_ad : Nat} {x_ad : List Nat} (h_a : Rd w Bd A_a n_a c_a x_a) (g_a : n_a ≤ 1000000000) (h_ad : Rd w Bd A_ad n_ad c_ad x_ad) (g_ad : n_ad ≤ 1000000000) (hB : Bd ≤ w.heap.size) {q : Rat} (hq : qv s_a (val x_a) (val x_ad) = q) : Calls Try.prog 74 #[.agg #[.bool s_a, .slice A_a n_a c_a, .slice A_ad n_ad c_ad]] w (RetB w (.string (qstr q))) := by
  by_cases h : q.den = 1
  · exact pprint_int h_a g_a h_ad g_ad hB hq h
  · exact pprint_frac h_a g_a h_ad g_ad hB hq h
end
end Go.Proofs.Ytdihgmbldnekhaa
