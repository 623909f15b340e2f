/-
  Parse of integers at any string, program and reference; and at what is printed.
-/
import Derived.Test.YtieopcchchebgaaRInt4
namespace Go.Proofs.Ytieopcchchebgaa
open Go.RowKit

theorem par_len {t : ByteArray} (h : IsNum t) (hl : t.size ≤ 400) : (dig (dvp t t.size)).length ≤ 400 := by
  rw [dig_len_le]
  have h1 := dvp_lt h.1
  have h2 := Nat.pow_le_pow_right (show 0 < 10 by omega) hl
  have h3 := ten_le_pw 400
  exact Nat.lt_of_lt_of_le h1 (Nat.le_trans h2 h3)
theorem nat_par (t : ByteArray) (hs : t.size ≤ 9223372036854775807) : ∃ (m : Nat) (k : Int), (∀ w, Calls Try.prog 83 #[.string t] w (RetPV w m k)) ∧ (∀ w, Calls Try.prog 86 #[.string t] w (RetPV w m k)) ∧ (k = 0 → IsNum t ∧ m = dvp t t.size) ∧ (dig m).length ≤ 400 := by
  by_cases h : IsNum t
  · by_cases hl : t.size ≤ 400
    · exact ⟨dvp t t.size, 0, fun w => parse_ok w t h hl, fun w => rparse_ok w t h hl, fun _ => ⟨h, rfl⟩, par_len h hl⟩
    · exact ⟨0, 5, fun w => (parse_long w t hs h (by omega)).mono fun _ _ => RetErr.pv, fun w => (rparse_long w t hs h (by omega)).mono fun _ _ => RetErr.pv, fun h => by omega, by rw [dig_zero]; simp⟩
  · exact ⟨0, 2, fun w => (parse_syntax w t hs h).mono fun _ _ => RetErr.pv, fun w => (rparse_syntax w t hs h).mono fun _ _ => RetErr.pv, fun h => by omega, by rw [dig_zero]; simp⟩

theorem bytes_ext {a b : ByteArray} (h : a.data.toList = b.data.toList) : a = b := by
  cases a; cases b; simp only [ByteArray.mk.injEq] at *; exact Array.toList_inj.1 h
theorem minus_back {s : ByteArray} (h0 : 0 < s.size) (h1 : bt s 0 = 45) : (⟨#[45]⟩ : ByteArray) ++ s.extract 1 s.size = s := by
  apply bytes_ext
  rw [Joins.data_append]
  obtain ⟨⟨l⟩⟩ := s
  match l with
  | [] => exact absurd h0 (by simp [ByteArray.size])
  | a :: l =>
    have h2 : a.toNat = 45 := h1
    have : a = 45 := UInt8.toNat_inj.1 h2
    subst this
    rw [ByteArray.data_extract, show (ByteArray.mk ⟨45 :: l⟩).size = l.length + 1 from rfl]
    simp
theorem minus_size (t : ByteArray) : ((⟨#[45]⟩ : ByteArray) ++ t).size = 1 + t.size := by
  have := congrArg List.length (Joins.data_append ⟨#[45]⟩ t)
  rw [List.length_append, Array.length_toList, Array.length_toList, Array.length_toList] at this
  exact this
theorem minus_first (t : ByteArray) : bt ((⟨#[45]⟩ : ByteArray) ++ t) 0 = 45 := by
  have h := Joins.data_append ⟨#[45]⟩ t
  generalize (⟨#[45]⟩ : ByteArray) ++ t = s at *
  obtain ⟨⟨l⟩⟩ := s
  have h : l = 45 :: t.data.toList := h
  subst h
  rfl
theorem minus_rest (t : ByteArray) : ((⟨#[45]⟩ : ByteArray) ++ t).extract 1 ((⟨#[45]⟩ : ByteArray) ++ t).size = t := by
  have h := Joins.data_append ⟨#[45]⟩ t
  apply bytes_ext
  generalize (⟨#[45]⟩ : ByteArray) ++ t = s at *
  obtain ⟨⟨l⟩⟩ := s
  have h : l = 45 :: t.data.toList := h
  subst h
  rw [ByteArray.data_extract, show (ByteArray.mk ⟨45 :: t.data.toList⟩).size = t.data.toList.length + 1 from rfl]
  simp only [Array.toList_extract, List.drop_succ_cons, List.drop_zero, Nat.add_sub_cancel, List.extract_eq_take_drop]
  exact List.take_length

theorem zstr_iv_true {m : Nat} (h : m ≠ 0) : zstr (iv true m) = (⟨#[45]⟩ : ByteArray) ++ strN (dec m) := by
  unfold zstr
  rw [if_pos (by rw [iv_true]; omega), zmag_iv]
theorem zstr_iv_false (m : Nat) : zstr (iv false m) = strN (dec m) := by
  unfold zstr
  rw [if_neg (by rw [iv_false]; omega), zmag_iv]

theorem zl0 : (dig (zmag 0)).length ≤ 400 := by rw [show zmag 0 = 0 from rfl, dig_zero]; simp
theorem par_z (s : ByteArray) (hs : s.size ≤ 9223372036854775807) : ∃ (z k : Int), (∀ w, Calls Try.prog 82 #[.string s] w (RetIV w z k)) ∧ (∀ w, Calls Try.prog 85 #[.string s] w (RetIV w z k)) ∧ (k = 0 → zstr z = s) ∧ (dig (zmag z)).length ≤ 400 := by
  by_cases hn : 0 < s.size ∧ bt s 0 = 45
  · obtain ⟨h0, h1⟩ := hn
    obtain ⟨m, k, hp, hr, hk, hlen⟩ := nat_par (s.extract 1 s.size) (by rw [size_ext (Nat.le_refl _)]; omega)
    by_cases hk0 : k = 0
    · subst hk0
      obtain ⟨hnum, hm⟩ := hk rfl
      by_cases hm0 : m = 0
      · subst hm0
        exact ⟨0, 2, fun w => iparse_minus_true w s hs h0 h1 hp, fun w => riparse_minus_true w s hs h0 h1 hr, fun h => by omega, zl0⟩
      · refine ⟨iv true m, 0, fun w => iparse_ok_true w s hs h0 h1 m hm0 hp, fun w => riparse_ok_true w s hs h0 h1 m hm0 hr, fun _ => ?_, by rw [zmag_iv]; exact hlen⟩
        rw [zstr_iv_true hm0, hm, num_dec hnum, minus_back h0 h1]
    · exact ⟨0, k, fun w => iparse_err_true w s hs h0 h1 k hk0 m hp, fun w => riparse_err_true w s hs h0 h1 k hk0 m hr, fun h => absurd h hk0, zl0⟩
  · have h1 : s.size = 0 ∨ bt s 0 ≠ 45 := by omega
    obtain ⟨m, k, hp, hr, hk, hlen⟩ := nat_par s hs
    have hr' : ∀ (z k' : Int), (s.size = 0 → ∀ w, Calls Try.prog 85 #[.string s] w (RetIV w z k')) → (0 < s.size → ¬ bt s 0 = 45 → ∀ w, Calls Try.prog 85 #[.string s] w (RetIV w z k')) → ∀ w, Calls Try.prog 85 #[.string s] w (RetIV w z k') := by
      intro z k' ha hb
      by_cases h : s.size = 0
      · exact ha h
      · exact hb (by omega) (by omega)
    by_cases hk0 : k = 0
    · subst hk0
      obtain ⟨hnum, hm⟩ := hk rfl
      refine ⟨iv false m, 0, fun w => iparse_ok_false w s hs h1 m hp, hr' _ _ (fun h w => riparse_ok_empty w s hs h m hr) (fun h h' w => riparse_ok_other w s hs h h' m hr), fun _ => ?_, by rw [zmag_iv]; exact hlen⟩
      rw [zstr_iv_false, hm, num_dec hnum]
    · exact ⟨0, k, fun w => iparse_err_false w s hs h1 k hk0 m hp, hr' _ _ (fun h w => riparse_err_empty w s hs h k hk0 m hr) (fun h h' w => riparse_err_other w s hs h h' k hk0 m hr), fun h => absurd h hk0, zl0⟩

/-- Parse at what is printed of an integer -/
theorem par_zstr (a : Int) (hs : (zstr a).size ≤ 9223372036854775807) (w : World) : Calls Try.prog 82 #[.string (zstr a)] w (RetIV w (if (dec (zmag a)).length ≤ 400 then a else 0) (if (dec (zmag a)).length ≤ 400 then 0 else 5)) := by
  have hn := dec_isNum (zmag a)
  have hv := dec_val (zmag a)
  have hsz := strN_size (dec (zmag a))
  by_cases hneg : a < 0
  · have hm0 : zmag a ≠ 0 := by unfold zmag; omega
    have ha : iv true (zmag a) = a := by rw [iv_true]; unfold zmag; omega
    have he : zstr a = (⟨#[45]⟩ : ByteArray) ++ strN (dec (zmag a)) := by unfold zstr; rw [if_pos hneg]
    have h0 : 0 < (zstr a).size := by rw [he, minus_size]; omega
    have h1 : bt (zstr a) 0 = 45 := by rw [he, minus_first]
    have hx : (zstr a).extract 1 (zstr a).size = strN (dec (zmag a)) := by rw [he, minus_rest]
    have hss : (strN (dec (zmag a))).size ≤ 9223372036854775807 := by have := minus_size (strN (dec (zmag a))); rw [← he] at this; omega
    by_cases hl : (dec (zmag a)).length ≤ 400
    · rw [if_pos hl, if_pos hl]
      have := iparse_ok_true w (zstr a) hs h0 h1 (zmag a) hm0 (fun w => by
        rw [hx]
        have := parse_ok w _ hn (by rw [hsz]; exact hl)
        rw [hv] at this
        exact this)
      rw [ha] at this
      exact this
    · rw [if_neg hl, if_neg hl]
      exact iparse_err_true w (zstr a) hs h0 h1 5 (by omega) 0 (fun w => by
        rw [hx]
        exact (parse_long w _ hss hn (by rw [hsz]; omega)).mono fun _ _ => RetErr.pv)
  · have ha : iv false (zmag a) = a := by rw [iv_false]; unfold zmag; omega
    have he : zstr a = strN (dec (zmag a)) := by unfold zstr; rw [if_neg hneg]
    have h1 : (zstr a).size = 0 ∨ bt (zstr a) 0 ≠ 45 := by
      right
      rw [he]
      have := hn.1 0 hn.2.1
      omega
    by_cases hl : (dec (zmag a)).length ≤ 400
    · rw [if_pos hl, if_pos hl]
      have := iparse_ok_false w (zstr a) hs h1 (zmag a) (fun w => by
        rw [he]
        have := parse_ok w _ hn (by rw [hsz]; exact hl)
        rw [hv] at this
        exact this)
      rw [ha] at this
      exact this
    · rw [if_neg hl, if_neg hl]
      exact iparse_err_false w (zstr a) hs h1 5 (by omega) 0 (fun w => by
        rw [he]
        exact (parse_long w _ (by rw [← he]; exact hs) hn (by rw [hsz]; omega)).mono fun _ _ => RetErr.pv)

end Go.Proofs.Ytieopcchchebgaa
