/-
  Parse of integers at any string, program and reference; and at what is printed.
-/
import Derived.Test.YtdihgmbldnekhaaRInt4
namespace Go.Proofs.Ytdihgmbldnekhaa
open Go.RowKit

theorem par_len {t : ByteArray} (h : IsNum t) (hl : t.size ≤ 400) : (dig (dvp t t.size)).length ≤ 400 := by
  rw [dig_len_le]
  have h1 := dvp_lt h.1
  have h2 := Nat.pow_le_pow_right (show 0 < 10 by omega) hl
  have h3 := ten_le_pw 400
  exact Nat.lt_of_lt_of_le h1 (Nat.le_trans h2 h3)
theorem bytes_ext {a b : ByteArray} (h : a.data.toList = b.data.toList) : a = b := by
  cases a; cases b; simp only [ByteArray.mk.injEq] at *; exact Array.toList_inj.1 h
theorem minus_back {s : ByteArray} (h0 : 0 < s.size) (h1 : bt s 0 = 45) : (⟨#[45]⟩ : ByteArray) ++ s.extract 1 s.size = s := by
  apply bytes_ext
  rw [Joins.data_append]
  obtain ⟨⟨l⟩⟩ := s
  match l with
  | [] => exact absurd h0 (by simp [ByteArray.size])
  | a :: l =>
    have h2 : a.toNat = 45 := h1
    have : a = 45 := UInt8.toNat_inj.1 h2
    subst this
    rw [ByteArray.data_extract, show (ByteArray.mk ⟨45 :: l⟩).size = l.length + 1 from rfl]
    simp
theorem minus_size (t : ByteArray) : ((⟨#[45]⟩ : ByteArray) ++ t).size = 1 + t.size := by
  have := congrArg List.length (Joins.data_append ⟨#[45]⟩ t)
  rw [List.length_append, Array.length_toList, Array.length_toList, Array.length_toList] at this
  exact this
theorem minus_first (t : ByteArray) : bt ((⟨#[45]⟩ : ByteArray) ++ t) 0 = 45 := by
  have h := Joins.data_append ⟨#[45]⟩ t
  generalize (⟨#[45]⟩ : ByteArray) ++ t = s at *
  obtain ⟨⟨l⟩⟩ := s
  have h : l = 45 :: t.data.toList := h
  subst h
  rfl
theorem minus_rest (t : ByteArray) : ((⟨#[45]⟩ : ByteArray) ++ t).extract 1 ((⟨#[45]⟩ : ByteArray) ++ t).size = t := by
  have h := Joins.data_append ⟨#[45]⟩ t
  apply bytes_ext
  generalize (⟨#[45]⟩ : ByteArray) ++ t = s at *
  obtain ⟨⟨l⟩⟩ := s
  have h : l = 45 :: t.data.toList := h
  subst h
  rw [ByteArray.data_extract, show (ByteArray.mk ⟨45 :: t.data.toList⟩).size = t.data.toList.length + 1 from rfl]
  simp only [Array.toList_extract, List.drop_succ_cons, List.drop_zero, Nat.add_sub_cancel, List.extract_eq_take_drop]
  exact List.take_length

theorem zstr_iv_true {m : Nat} (h : m ≠ 0) : zstr (iv true m) = (⟨#[45]⟩ : ByteArray) ++ strN (dec m) := by
  unfold zstr
  rw [if_pos (by rw [iv_true]; omega), zmag_iv]
theorem zstr_iv_false (m : Nat) : zstr (iv false m) = strN (dec m) := by
  unfold zstr
  rw [if_neg (by rw [iv_false]; omega), zmag_iv]

theorem zl0 : (dig (zmag 0)).length ≤ 400 := by rw [show zmag 0 = 0 from rfl, dig_zero]; simp
end Go.Proofs.Ytdihgmbldnekhaa
