/-
  strings.Cut at a slash.
-/
import Derived.Test.YtieopcchchebgaaRat
import Derived.Test.YtieopcchchebgaaIntPar
import Derived.Lib.Strings
import Derived.Lib.Slices
import Derived.Lib.Walk
import Derived.Lib.Bytealg
import Derived.Lib.IndexLaws
namespace Go.Proofs.Ytieopcchchebgaa
open Go.RowKit

def SlashAt (s : ByteArray) (i : Nat) : Prop := i < s.size ∧ bt s i = 47 ∧ ∀ j, j < i → bt s j ≠ 47
def NoSlash (s : ByteArray) : Prop := ∀ j, j < s.size → bt s j ≠ 47
theorem slash_upto (s : ByteArray) : ∀ n, n ≤ s.size → (∀ j, j < n → bt s j ≠ 47) ∨ ∃ i, i < n ∧ SlashAt s i
  | 0, _ => Or.inl fun j hj => by omega
  | n + 1, hn => by
    rcases slash_upto s n (by omega) with h | ⟨i, hi, h⟩
    · by_cases hb : bt s n = 47
      · exact Or.inr ⟨n, by omega, by omega, hb, h⟩
      · exact Or.inl fun j hj => by
          rcases Nat.lt_succ_iff_lt_or_eq.1 hj with h1 | h1
          · exact h j h1
          · rw [h1]; exact hb
    · exact Or.inr ⟨i, by omega, h⟩
theorem slash_cases (s : ByteArray) : NoSlash s ∨ ∃ i, SlashAt s i := by
  rcases slash_upto s s.size (Nat.le_refl _) with h | ⟨i, _, h⟩
  · exact Or.inl h
  · exact Or.inr ⟨i, h⟩
theorem bt47 {s : ByteArray} {k : Nat} (hk : k < s.size) : s.data.toList[k]? = some 47 ↔ bt s k = 47 := by
  have h1 : s.data.toList[k]? = some s[k] := by
    rw [Array.getElem?_toList]
    exact Array.getElem?_eq_getElem hk
  have h2 : bt s k = s[k].toNat := by unfold bt; rw [dif_pos hk]
  rw [h1, h2, Option.some.injEq]
  constructor
  · intro h; rw [h]; rfl
  · intro h; exact UInt8.toNat_inj.1 h
theorem ix_slash {s : ByteArray} {i : Nat} (h : SlashAt s i) : Lib.indexByte s.data.toList 47 = i := by
  have hg := Lib.indexByte_ge s.data.toList 47
  have h0 := (bt47 h.1).2 h.2.1
  by_cases hn : Lib.indexByte s.data.toList 47 = -1
  · exact absurd h0 (Lib.indexByte_none hn i)
  · obtain ⟨o, ho⟩ : ∃ o : Nat, Lib.indexByte s.data.toList 47 = o := ⟨(Lib.indexByte s.data.toList 47).toNat, by omega⟩
    obtain ⟨h1, h2⟩ := Lib.indexByte_some ho
    have hos : o < s.size := by
      have := (List.getElem?_eq_some_iff.1 h1).1
      rwa [Array.length_toList] at this
    have h3 := (bt47 hos).1 h1
    rcases Nat.lt_trichotomy o i with hlt | rfl | hlt
    · exact absurd h3 (h.2.2 o hlt)
    · exact ho
    · exact absurd h0 (h2 i hlt)
theorem ix_none {s : ByteArray} (h : NoSlash s) : Lib.indexByte s.data.toList 47 = -1 := by
  have hg := Lib.indexByte_ge s.data.toList 47
  by_cases hn : Lib.indexByte s.data.toList 47 = -1
  · exact hn
  · obtain ⟨o, ho⟩ : ∃ o : Nat, Lib.indexByte s.data.toList 47 = o := ⟨(Lib.indexByte s.data.toList 47).toNat, by omega⟩
    obtain ⟨h1, _⟩ := Lib.indexByte_some ho
    have hos : o < s.size := by
      have := (List.getElem?_eq_some_iff.1 h1).1
      rwa [Array.length_toList] at this
    exact absurd ((bt47 hos).1 h1) (h o hos)

set_option maxHeartbeats 1000000 in
set_option maxRecDepth 100000 in
theorem ixb_any (s : ByteArray) (c : Int) (w : World) :
    Calls Try.prog 127 #[.string s, .int .u8 c] w fun e w' => e = .returned (.int .i64 (Lib.indexByte s.data.toList c.toNat.toUInt8)) ∧ w' = w := by
  go_enter Try.func127, Try.ntmps127
  go_wp2
  rw [run_callFunc_extern Try.func135 (by kernel_rfl) (by kernel_rfl) (by kernel_rfl) (e := Extern.BytealgIndexByte.indexByte) (by kernel_rfl), Lib.run_indexByteString]
  simp only [Result.andThen]
  rw [Oper.upon_value]
  go_wp2
  go_ret
  exact ⟨rfl, rfl⟩

set_option maxHeartbeats 1000000 in
theorem ix_any (s : ByteArray) (w : World) :
    Calls Try.prog 121 #[.string s, .string ⟨#[47]⟩] w fun e w' => e = .returned (.int .i64 (Lib.indexByte s.data.toList 47)) ∧ w' = w := by
  go_enter Try.func121, Try.ntmps121
  go_wp2_with (go_at_call 127; refine (ixb_any _ _ _).mono ?_; rintro e w' ⟨rfl, rfl⟩)
  · have h : ([47] == s.toList) = true := by assumption
    go_ret
    refine ⟨?_, rfl⟩
    have e : s.data.toList = [47] := by rw [← Lib.toList_data]; exact (beq_iff_eq.1 h).symm
    rw [e]
    simp [Lib.indexByte]
  · go_ret
    exact ⟨rfl, rfl⟩

set_option maxHeartbeats 1000000 in
theorem scut_hit {s : ByteArray} {i : Nat} (hs : s.size ≤ 9223372036854775807) (h : SlashAt s i) (w : World) :
    Calls Try.prog 107 #[.string s, .string ⟨#[47]⟩] w (RetB w (.tuple #[.string (s.extract 0 i), .string (s.extract (i + 1) s.size), .bool true])) := by
  have hi := hide (ix_slash h)
  have h1 := h.1
  clear h
  go_enter Try.func107, Try.ntmps107
  go_wp2_with fail
  refine (ix_any _ _).mono ?_
  rw [hi.out]
  rintro e w' ⟨rfl, rfl⟩
  go_wp2_with fail
  go_quiet (fail)
  go_wp2
  exact bodyPost_ret (v := .tuple #[.string (s.extract 0 i), .string (s.extract (i + 1) s.size), .bool true]) (by simp [results, Try.results107, go_sem]) rfl ⟨rfl, below_drewN (Below.refl _ _) _⟩
set_option maxHeartbeats 1000000 in
theorem scut_miss {s : ByteArray} (h : NoSlash s) (w : World) :
    Calls Try.prog 107 #[.string s, .string ⟨#[47]⟩] w (RetB w (.tuple #[.string s, .string ⟨#[]⟩, .bool false])) := by
  have hi := hide (ix_none h)
  clear h
  go_enter Try.func107, Try.ntmps107
  go_wp2_with fail
  refine (ix_any _ _).mono ?_
  rw [hi.out]
  rintro e w' ⟨rfl, rfl⟩
  go_wp2
  exact bodyPost_ret (v := .tuple #[.string s, .string ⟨#[]⟩, .bool false]) (by simp [results, Try.results107, go_sem]) rfl ⟨rfl, Below.refl _ _⟩
set_option maxHeartbeats 1000000 in
theorem cut_any {s b a : ByteArray} {f : Bool} (h : ∀ w, Calls Try.prog 107 #[.string s, .string ⟨#[47]⟩] w (RetB w (.tuple #[.string b, .string a, .bool f]))) (w : World) :
    Calls Try.prog 81 #[.string s, .string ⟨#[47]⟩] w (RetB w (.tuple #[.string b, .string a, .bool f])) := by
  go_enter Try.func81, Try.ntmps81
  go_wp2_with fail
  refine (h _).mono ?_
  rintro e w' ⟨rfl, hb⟩
  replace hb := hide hb
  go_wp2
  exact bodyPost_ret (v := .tuple #[.string b, .string a, .bool f]) (by simp [results, Try.results81, go_sem]) rfl ⟨rfl, hb.out⟩

end Go.Proofs.Ytieopcchchebgaa
