/-
  CutDot, Repeat, Digits, Trim0.
-/
import Derived.Test.YtdlmfembnmomjaaGreatDoorTextB
import Derived.Test.YtdlmfembnmomjaaGreatDoorDecA
import Derived.Shelf.Strings.SlTrimAscii
namespace Go.Proofs.YtdlmfembnmomjaaGreatDoor
section
open Go.RowKit

def DotAt (s : ByteArray) (i : Nat) : Prop := i < s.size ∧ bt s i = 46 ∧ ∀ j, j < i → bt s j ≠ 46
def NoDot (s : ByteArray) : Prop := ∀ j, j < s.size → bt s j ≠ 46
theorem dot_upto (s : ByteArray) : ∀ n, n ≤ s.size → (∀ j, j < n → bt s j ≠ 46) ∨ ∃ i, i < n ∧ DotAt s i
  | 0, _ => Or.inl fun j hj => by omega
  | n + 1, hn => by
    rcases dot_upto s n (by omega) with h | ⟨i, hi, h⟩
    · by_cases hb : bt s n = 46
      · exact Or.inr ⟨n, by omega, by omega, hb, h⟩
      · exact Or.inl fun j hj => by
          rcases Nat.lt_succ_iff_lt_or_eq.1 hj with h1 | h1
          · exact h j h1
          · rw [h1]; exact hb
    · exact Or.inr ⟨i, by omega, h⟩
theorem dot_cases (s : ByteArray) : NoDot s ∨ ∃ i, DotAt s i := by
  rcases dot_upto s s.size (Nat.le_refl _) with h | ⟨i, _, h⟩
  · exact Or.inl h
  · exact Or.inr ⟨i, h⟩
theorem bt46 {s : ByteArray} {k : Nat} (hk : k < s.size) : s.data.toList[k]? = some 46 ↔ bt s k = 46 := by
  have h1 : s.data.toList[k]? = some s[k] := by
    rw [Array.getElem?_toList]
    exact Array.getElem?_eq_getElem hk
  have h2 : bt s k = s[k].toNat := by unfold bt; rw [dif_pos hk]
  rw [h1, h2, Option.some.injEq]
  constructor
  · intro h; rw [h]; rfl
  · intro h; exact UInt8.toNat_inj.1 h
theorem ix_dot {s : ByteArray} {i : Nat} (h : DotAt s i) : Lib.indexByte s.data.toList 46 = i := by
  have hg := Lib.indexByte_ge s.data.toList 46
  have h0 := (bt46 h.1).2 h.2.1
  by_cases hn : Lib.indexByte s.data.toList 46 = -1
  · exact absurd h0 (Lib.indexByte_none hn i)
  · obtain ⟨o, ho⟩ : ∃ o : Nat, Lib.indexByte s.data.toList 46 = o := ⟨(Lib.indexByte s.data.toList 46).toNat, by omega⟩
    obtain ⟨h1, h2⟩ := Lib.indexByte_some ho
    have hos : o < s.size := by
      have := (List.getElem?_eq_some_iff.1 h1).1
      rwa [Array.length_toList] at this
    have h3 := (bt46 hos).1 h1
    rcases Nat.lt_trichotomy o i with hlt | rfl | hlt
    · exact absurd h3 (h.2.2 o hlt)
    · exact ho
    · exact absurd h0 (h2 i hlt)
theorem ixd_none {s : ByteArray} (h : NoDot s) : Lib.indexByte s.data.toList 46 = -1 := by
  have hg := Lib.indexByte_ge s.data.toList 46
  by_cases hn : Lib.indexByte s.data.toList 46 = -1
  · exact hn
  · obtain ⟨o, ho⟩ : ∃ o : Nat, Lib.indexByte s.data.toList 46 = o := ⟨(Lib.indexByte s.data.toList 46).toNat, by omega⟩
    obtain ⟨h1, _⟩ := Lib.indexByte_some ho
    have hos : o < s.size := by
      have := (List.getElem?_eq_some_iff.1 h1).1
      rwa [Array.length_toList] at this
    exact absurd ((bt46 hos).1 h1) (h o hos)

set_option maxHeartbeats 1000000 in
theorem ixd_any (s : ByteArray) (w : World) :
    Calls Tryz.prog 133 #[.string s, .string ⟨#[46]⟩] w fun e w' => e = .returned (.int .i64 (Lib.indexByte s.data.toList 46)) ∧ w' = w := by
  go_enter Tryz.func133, Tryz.ntmps133
  go_wp2_with (go_at_call 153; refine (ixb_any _ _ _).mono ?_; rintro e w' ⟨rfl, rfl⟩)
  · have h : ([46] == s.toList) = true := by assumption
    go_ret
    refine ⟨?_, rfl⟩
    have e : s.data.toList = [46] := by rw [← Lib.toList_data]; exact (beq_iff_eq.1 h).symm
    rw [e]
    simp [Lib.indexByte]
  · go_ret
    exact ⟨rfl, rfl⟩

set_option maxHeartbeats 1000000 in
theorem dcut_hit {s : ByteArray} {i : Nat} (hs : s.size ≤ 9223372036854775807) (h : DotAt s i) (w : World) :
    Calls Tryz.prog 98 #[.string s, .string ⟨#[46]⟩] w (RetB w (.tuple #[.string (s.extract 0 i), .string (s.extract (i + 1) s.size), .bool true])) := by
  have hi := hide (ix_dot h)
  have h1 := h.1
  clear h
  go_enter Tryz.func98, Tryz.ntmps98
  go_wp2_with fail
  refine (ixd_any _ _).mono ?_
  rw [hi.out]
  rintro e w' ⟨rfl, rfl⟩
  go_wp2_with fail
  go_quiet (fail)
  go_wp2
  exact bodyPost_ret (v := .tuple #[.string (s.extract 0 i), .string (s.extract (i + 1) s.size), .bool true]) (by simp [results, Tryz.results98, go_sem]) rfl ⟨rfl, below_drewN (Below.refl _ _) _⟩
set_option maxHeartbeats 1000000 in
theorem dcut_miss {s : ByteArray} (h : NoDot s) (w : World) :
    Calls Tryz.prog 98 #[.string s, .string ⟨#[46]⟩] w (RetB w (.tuple #[.string s, .string ⟨#[]⟩, .bool false])) := by
  have hi := hide (ixd_none h)
  clear h
  go_enter Tryz.func98, Tryz.ntmps98
  go_wp2_with fail
  refine (ixd_any _ _).mono ?_
  rw [hi.out]
  rintro e w' ⟨rfl, rfl⟩
  go_wp2
  exact bodyPost_ret (v := .tuple #[.string s, .string ⟨#[]⟩, .bool false]) (by simp [results, Tryz.results98, go_sem]) rfl ⟨rfl, Below.refl _ _⟩
set_option maxHeartbeats 1000000 in
theorem dotcut_any {s b a : ByteArray} {f : Bool} (h : ∀ w, Calls Tryz.prog 98 #[.string s, .string ⟨#[46]⟩] w (RetB w (.tuple #[.string b, .string a, .bool f]))) (w : World) :
    Calls Tryz.prog 59 #[.string s, .string ⟨#[46]⟩] w (RetB w (.tuple #[.string b, .string a, .bool f])) := by
  go_enter Tryz.func59, Tryz.ntmps59
  go_wp2_with fail
  refine (h _).mono ?_
  rintro e w' ⟨rfl, hb⟩
  replace hb := hide hb
  go_wp2
  exact bodyPost_ret (v := .tuple #[.string b, .string a, .bool f]) (by simp [results, Tryz.results59, go_sem]) rfl ⟨rfl, hb.out⟩
end

section
open Go.RowKit

/-- k zeros -/
def zeros (k : Nat) : List Nat := List.replicate k 48
theorem first_byte {s : ByteArray} (h0 : 0 < s.size) (b : UInt8) : ((s.extract 0 1).toList == [b]) = decide (bt s 0 = b.toNat) := by
  have h1 : s.data.toList[0]? = some s[0] := by
    rw [Array.getElem?_toList]
    exact Array.getElem?_eq_getElem h0
  have h2 : bt s 0 = s[0].toNat := by unfold bt; rw [dif_pos h0]
  have h3 : (s.extract 0 1).toList = [s[0]] := by
    rw [Lib.toList_data, ByteArray.data_extract, Array.toList_extract, List.extract_eq_take_drop]
    cases hl : s.data.toList with
    | nil => rw [hl] at h1; cases h1
    | cons x r => rw [hl] at h1; simp at h1; simp [h1]
  rw [h3, h2]
  by_cases hb : s[0] = b
  · rw [hb]; simp
  · have : ¬ s[0].toNat = b.toNat := fun h => hb (UInt8.toNat_inj.1 h)
    rw [decide_eq_false this]
    simpa using hb
set_option maxHeartbeats 1000000 in
theorem hp0_any {s : ByteArray} (h0 : 0 < s.size) {b : Bool} (hb : decide (bt s 0 = 48) = b) (w : World) :
    Calls Tryz.prog 106 #[.string s, .string ⟨#[48]⟩] w fun e w' => e = .returned (.bool b) ∧ w = w' := by
  have ht := first_byte h0 48
  rw [show (48 : UInt8).toNat = 48 from rfl, hb] at ht
  clear hb
  have hh : Calls Tryz.prog 132 #[.string s, .string ⟨#[48]⟩] w fun e w' => e = .returned (.bool b) ∧ w = w' := by
    replace ht := hide ht
    have h1 : 1 ≤ s.size := h0
    go_enter Tryz.func132, Tryz.ntmps132
    go_wp2
    go_ret
    rw [ht.out]
    exact ⟨rfl, rfl⟩
  clear ht h0
  replace hh := hide hh
  go_enter Tryz.func106, Tryz.ntmps106
  go_wp2_with fail
  refine hh.out.mono ?_
  clear hh
  rintro e w' ⟨rfl, rfl⟩
  go_wp2
  go_ret
  exact ⟨rfl, rfl⟩
set_option maxHeartbeats 4000000 in
set_option maxRecDepth 100000 in
theorem repeat_0 (w : World) : Calls Tryz.prog 68 #[.string ⟨#[48]⟩, .int .i64 0] w fun e w' => e = .returned (.string ⟨#[]⟩) ∧ w = w' := by
  go_enter Tryz.func68, Tryz.ntmps68
  go_wp2
  go_ret
  exact ⟨rfl, rfl⟩
set_option maxHeartbeats 4000000 in
set_option maxRecDepth 100000 in
theorem repeat_1 (w : World) : Calls Tryz.prog 68 #[.string ⟨#[48]⟩, .int .i64 1] w fun e w' => e = .returned (.string ⟨#[48]⟩) ∧ w = w' := by
  go_enter Tryz.func68, Tryz.ntmps68
  go_wp2
  go_ret
  exact ⟨rfl, rfl⟩
set_option maxHeartbeats 4000000 in
theorem mul64_2 (w : World) : Calls Tryz.prog 105 #[.int .u64 1, .int .u64 2] w fun e w' => e = .returned (.tuple #[.int .u64 0, .int .u64 2]) ∧ w = w' := by
  have hh : Calls Tryz.prog 142 #[.int .u64 1, .int .u64 2] w fun e w' => e = .returned (.tuple #[.int .u64 0, .int .u64 2]) ∧ w = w' := by
    go_enter Tryz.func142, Tryz.ntmps142
    go_wp2
    go_ret2
    exact ⟨by kernel_rfl, rfl⟩
  replace hh := hide hh
  go_enter Tryz.func105, Tryz.ntmps105
  go_wp2_with fail
  refine hh.out.mono ?_
  clear hh
  rintro e w' ⟨rfl, rfl⟩
  go_wp2
  go_ret2
  exact ⟨rfl, rfl⟩
set_option maxHeartbeats 4000000 in
set_option maxRecDepth 100000 in
theorem repeat_2 (w : World) : Calls Tryz.prog 68 #[.string ⟨#[48]⟩, .int .i64 2] w fun e w' => e = .returned (.string ⟨#[48, 48]⟩) ∧ w = w' := by
  go_enter Tryz.func68, Tryz.ntmps68
  go_wp2_with (first
    | (go_at_call 105; ((with_reducible refine (mul64_2 _).mono ?_); rintro e w' ⟨rfl, rfl⟩))
    | (go_at_call 106; ((with_reducible refine (hp0_any (by decide) (by rfl) _).mono ?_); rintro e w' ⟨rfl, rfl⟩))
    | fail)
  go_ret
  exact ⟨by kernel_rfl, rfl⟩
set_option maxHeartbeats 4000000 in
theorem mul64_3 (w : World) : Calls Tryz.prog 105 #[.int .u64 1, .int .u64 3] w fun e w' => e = .returned (.tuple #[.int .u64 0, .int .u64 3]) ∧ w = w' := by
  have hh : Calls Tryz.prog 142 #[.int .u64 1, .int .u64 3] w fun e w' => e = .returned (.tuple #[.int .u64 0, .int .u64 3]) ∧ w = w' := by
    go_enter Tryz.func142, Tryz.ntmps142
    go_wp2
    go_ret2
    exact ⟨by kernel_rfl, rfl⟩
  replace hh := hide hh
  go_enter Tryz.func105, Tryz.ntmps105
  go_wp2_with fail
  refine hh.out.mono ?_
  clear hh
  rintro e w' ⟨rfl, rfl⟩
  go_wp2
  go_ret2
  exact ⟨rfl, rfl⟩
set_option maxHeartbeats 4000000 in
set_option maxRecDepth 100000 in
theorem repeat_3 (w : World) : Calls Tryz.prog 68 #[.string ⟨#[48]⟩, .int .i64 3] w fun e w' => e = .returned (.string ⟨#[48, 48, 48]⟩) ∧ w = w' := by
  go_enter Tryz.func68, Tryz.ntmps68
  go_wp2_with (first
    | (go_at_call 105; ((with_reducible refine (mul64_3 _).mono ?_); rintro e w' ⟨rfl, rfl⟩))
    | (go_at_call 106; ((with_reducible refine (hp0_any (by decide) (by rfl) _).mono ?_); rintro e w' ⟨rfl, rfl⟩))
    | fail)
  go_ret
  exact ⟨by kernel_rfl, rfl⟩
set_option maxHeartbeats 4000000 in
theorem mul64_4 (w : World) : Calls Tryz.prog 105 #[.int .u64 1, .int .u64 4] w fun e w' => e = .returned (.tuple #[.int .u64 0, .int .u64 4]) ∧ w = w' := by
  have hh : Calls Tryz.prog 142 #[.int .u64 1, .int .u64 4] w fun e w' => e = .returned (.tuple #[.int .u64 0, .int .u64 4]) ∧ w = w' := by
    go_enter Tryz.func142, Tryz.ntmps142
    go_wp2
    go_ret2
    exact ⟨by kernel_rfl, rfl⟩
  replace hh := hide hh
  go_enter Tryz.func105, Tryz.ntmps105
  go_wp2_with fail
  refine hh.out.mono ?_
  clear hh
  rintro e w' ⟨rfl, rfl⟩
  go_wp2
  go_ret2
  exact ⟨rfl, rfl⟩
set_option maxHeartbeats 4000000 in
set_option maxRecDepth 100000 in
theorem repeat_4 (w : World) : Calls Tryz.prog 68 #[.string ⟨#[48]⟩, .int .i64 4] w fun e w' => e = .returned (.string ⟨#[48, 48, 48, 48]⟩) ∧ w = w' := by
  go_enter Tryz.func68, Tryz.ntmps68
  go_wp2_with (first
    | (go_at_call 105; ((with_reducible refine (mul64_4 _).mono ?_); rintro e w' ⟨rfl, rfl⟩))
    | (go_at_call 106; ((with_reducible refine (hp0_any (by decide) (by rfl) _).mono ?_); rintro e w' ⟨rfl, rfl⟩))
    | fail)
  go_ret
  exact ⟨by kernel_rfl, rfl⟩
set_option maxHeartbeats 4000000 in
theorem mul64_5 (w : World) : Calls Tryz.prog 105 #[.int .u64 1, .int .u64 5] w fun e w' => e = .returned (.tuple #[.int .u64 0, .int .u64 5]) ∧ w = w' := by
  have hh : Calls Tryz.prog 142 #[.int .u64 1, .int .u64 5] w fun e w' => e = .returned (.tuple #[.int .u64 0, .int .u64 5]) ∧ w = w' := by
    go_enter Tryz.func142, Tryz.ntmps142
    go_wp2
    go_ret2
    exact ⟨by kernel_rfl, rfl⟩
  replace hh := hide hh
  go_enter Tryz.func105, Tryz.ntmps105
  go_wp2_with fail
  refine hh.out.mono ?_
  clear hh
  rintro e w' ⟨rfl, rfl⟩
  go_wp2
  go_ret2
  exact ⟨rfl, rfl⟩
set_option maxHeartbeats 4000000 in
set_option maxRecDepth 100000 in
theorem repeat_5 (w : World) : Calls Tryz.prog 68 #[.string ⟨#[48]⟩, .int .i64 5] w fun e w' => e = .returned (.string ⟨#[48, 48, 48, 48, 48]⟩) ∧ w = w' := by
  go_enter Tryz.func68, Tryz.ntmps68
  go_wp2_with (first
    | (go_at_call 105; ((with_reducible refine (mul64_5 _).mono ?_); rintro e w' ⟨rfl, rfl⟩))
    | (go_at_call 106; ((with_reducible refine (hp0_any (by decide) (by rfl) _).mono ?_); rintro e w' ⟨rfl, rfl⟩))
    | fail)
  go_ret
  exact ⟨by kernel_rfl, rfl⟩
set_option maxHeartbeats 4000000 in
theorem mul64_6 (w : World) : Calls Tryz.prog 105 #[.int .u64 1, .int .u64 6] w fun e w' => e = .returned (.tuple #[.int .u64 0, .int .u64 6]) ∧ w = w' := by
  have hh : Calls Tryz.prog 142 #[.int .u64 1, .int .u64 6] w fun e w' => e = .returned (.tuple #[.int .u64 0, .int .u64 6]) ∧ w = w' := by
    go_enter Tryz.func142, Tryz.ntmps142
    go_wp2
    go_ret2
    exact ⟨by kernel_rfl, rfl⟩
  replace hh := hide hh
  go_enter Tryz.func105, Tryz.ntmps105
  go_wp2_with fail
  refine hh.out.mono ?_
  clear hh
  rintro e w' ⟨rfl, rfl⟩
  go_wp2
  go_ret2
  exact ⟨rfl, rfl⟩
set_option maxHeartbeats 4000000 in
set_option maxRecDepth 100000 in
theorem repeat_6 (w : World) : Calls Tryz.prog 68 #[.string ⟨#[48]⟩, .int .i64 6] w fun e w' => e = .returned (.string ⟨#[48, 48, 48, 48, 48, 48]⟩) ∧ w = w' := by
  go_enter Tryz.func68, Tryz.ntmps68
  go_wp2_with (first
    | (go_at_call 105; ((with_reducible refine (mul64_6 _).mono ?_); rintro e w' ⟨rfl, rfl⟩))
    | (go_at_call 106; ((with_reducible refine (hp0_any (by decide) (by rfl) _).mono ?_); rintro e w' ⟨rfl, rfl⟩))
    | fail)
  go_ret
  exact ⟨by kernel_rfl, rfl⟩
set_option maxHeartbeats 4000000 in
theorem mul64_7 (w : World) : Calls Tryz.prog 105 #[.int .u64 1, .int .u64 7] w fun e w' => e = .returned (.tuple #[.int .u64 0, .int .u64 7]) ∧ w = w' := by
  have hh : Calls Tryz.prog 142 #[.int .u64 1, .int .u64 7] w fun e w' => e = .returned (.tuple #[.int .u64 0, .int .u64 7]) ∧ w = w' := by
    go_enter Tryz.func142, Tryz.ntmps142
    go_wp2
    go_ret2
    exact ⟨by kernel_rfl, rfl⟩
  replace hh := hide hh
  go_enter Tryz.func105, Tryz.ntmps105
  go_wp2_with fail
  refine hh.out.mono ?_
  clear hh
  rintro e w' ⟨rfl, rfl⟩
  go_wp2
  go_ret2
  exact ⟨rfl, rfl⟩
set_option maxHeartbeats 4000000 in
set_option maxRecDepth 100000 in
theorem repeat_7 (w : World) : Calls Tryz.prog 68 #[.string ⟨#[48]⟩, .int .i64 7] w fun e w' => e = .returned (.string ⟨#[48, 48, 48, 48, 48, 48, 48]⟩) ∧ w = w' := by
  go_enter Tryz.func68, Tryz.ntmps68
  go_wp2_with (first
    | (go_at_call 105; ((with_reducible refine (mul64_7 _).mono ?_); rintro e w' ⟨rfl, rfl⟩))
    | (go_at_call 106; ((with_reducible refine (hp0_any (by decide) (by rfl) _).mono ?_); rintro e w' ⟨rfl, rfl⟩))
    | fail)
  go_ret
  exact ⟨by kernel_rfl, rfl⟩
set_option maxHeartbeats 4000000 in
theorem mul64_8 (w : World) : Calls Tryz.prog 105 #[.int .u64 1, .int .u64 8] w fun e w' => e = .returned (.tuple #[.int .u64 0, .int .u64 8]) ∧ w = w' := by
  have hh : Calls Tryz.prog 142 #[.int .u64 1, .int .u64 8] w fun e w' => e = .returned (.tuple #[.int .u64 0, .int .u64 8]) ∧ w = w' := by
    go_enter Tryz.func142, Tryz.ntmps142
    go_wp2
    go_ret2
    exact ⟨by kernel_rfl, rfl⟩
  replace hh := hide hh
  go_enter Tryz.func105, Tryz.ntmps105
  go_wp2_with fail
  refine hh.out.mono ?_
  clear hh
  rintro e w' ⟨rfl, rfl⟩
  go_wp2
  go_ret2
  exact ⟨rfl, rfl⟩
set_option maxHeartbeats 4000000 in
set_option maxRecDepth 100000 in
theorem repeat_8 (w : World) : Calls Tryz.prog 68 #[.string ⟨#[48]⟩, .int .i64 8] w fun e w' => e = .returned (.string ⟨#[48, 48, 48, 48, 48, 48, 48, 48]⟩) ∧ w = w' := by
  go_enter Tryz.func68, Tryz.ntmps68
  go_wp2_with (first
    | (go_at_call 105; ((with_reducible refine (mul64_8 _).mono ?_); rintro e w' ⟨rfl, rfl⟩))
    | (go_at_call 106; ((with_reducible refine (hp0_any (by decide) (by rfl) _).mono ?_); rintro e w' ⟨rfl, rfl⟩))
    | fail)
  go_ret
  exact ⟨by kernel_rfl, rfl⟩
set_option maxHeartbeats 4000000 in
theorem mul64_9 (w : World) : Calls Tryz.prog 105 #[.int .u64 1, .int .u64 9] w fun e w' => e = .returned (.tuple #[.int .u64 0, .int .u64 9]) ∧ w = w' := by
  have hh : Calls Tryz.prog 142 #[.int .u64 1, .int .u64 9] w fun e w' => e = .returned (.tuple #[.int .u64 0, .int .u64 9]) ∧ w = w' := by
    go_enter Tryz.func142, Tryz.ntmps142
    go_wp2
    go_ret2
    exact ⟨by kernel_rfl, rfl⟩
  replace hh := hide hh
  go_enter Tryz.func105, Tryz.ntmps105
  go_wp2_with fail
  refine hh.out.mono ?_
  clear hh
  rintro e w' ⟨rfl, rfl⟩
  go_wp2
  go_ret2
  exact ⟨rfl, rfl⟩
set_option maxHeartbeats 4000000 in
set_option maxRecDepth 100000 in
theorem repeat_9 (w : World) : Calls Tryz.prog 68 #[.string ⟨#[48]⟩, .int .i64 9] w fun e w' => e = .returned (.string ⟨#[48, 48, 48, 48, 48, 48, 48, 48, 48]⟩) ∧ w = w' := by
  go_enter Tryz.func68, Tryz.ntmps68
  go_wp2_with (first
    | (go_at_call 105; ((with_reducible refine (mul64_9 _).mono ?_); rintro e w' ⟨rfl, rfl⟩))
    | (go_at_call 106; ((with_reducible refine (hp0_any (by decide) (by rfl) _).mono ?_); rintro e w' ⟨rfl, rfl⟩))
    | fail)
  go_ret
  exact ⟨by kernel_rfl, rfl⟩
set_option maxHeartbeats 4000000 in
theorem mul64_10 (w : World) : Calls Tryz.prog 105 #[.int .u64 1, .int .u64 10] w fun e w' => e = .returned (.tuple #[.int .u64 0, .int .u64 10]) ∧ w = w' := by
  have hh : Calls Tryz.prog 142 #[.int .u64 1, .int .u64 10] w fun e w' => e = .returned (.tuple #[.int .u64 0, .int .u64 10]) ∧ w = w' := by
    go_enter Tryz.func142, Tryz.ntmps142
    go_wp2
    go_ret2
    exact ⟨by kernel_rfl, rfl⟩
  replace hh := hide hh
  go_enter Tryz.func105, Tryz.ntmps105
  go_wp2_with fail
  refine hh.out.mono ?_
  clear hh
  rintro e w' ⟨rfl, rfl⟩
  go_wp2
  go_ret2
  exact ⟨rfl, rfl⟩
set_option maxHeartbeats 4000000 in
set_option maxRecDepth 100000 in
theorem repeat_10 (w : World) : Calls Tryz.prog 68 #[.string ⟨#[48]⟩, .int .i64 10] w fun e w' => e = .returned (.string ⟨#[48, 48, 48, 48, 48, 48, 48, 48, 48, 48]⟩) ∧ w = w' := by
  go_enter Tryz.func68, Tryz.ntmps68
  go_wp2_with (first
    | (go_at_call 105; ((with_reducible refine (mul64_10 _).mono ?_); rintro e w' ⟨rfl, rfl⟩))
    | (go_at_call 106; ((with_reducible refine (hp0_any (by decide) (by rfl) _).mono ?_); rintro e w' ⟨rfl, rfl⟩))
    | fail)
  go_ret
  exact ⟨by kernel_rfl, rfl⟩
theorem zeros_eq (k : Nat) (hk : k ≤ 10) (w : World) : Calls Tryz.prog 68 #[.string ⟨#[48]⟩, .int .i64 (k : Int)] w (RetB w (.string (strN (zeros k)))) := by
  have hr : ∀ {s : ByteArray}, s = strN (zeros k) → Calls Tryz.prog 68 #[.string ⟨#[48]⟩, .int .i64 (k : Int)] w (fun e w' => e = .returned (.string s) ∧ w = w') → Calls Tryz.prog 68 #[.string ⟨#[48]⟩, .int .i64 (k : Int)] w (RetB w (.string (strN (zeros k)))) := fun h c => c.mono fun e w' ⟨h1, h2⟩ => ⟨by rw [h1, h], by rw [← h2]; exact Below.refl _ _⟩
  have hc : k = 0 ∨ k = 1 ∨ k = 2 ∨ k = 3 ∨ k = 4 ∨ k = 5 ∨ k = 6 ∨ k = 7 ∨ k = 8 ∨ k = 9 ∨ k = 10 := by omega
  rcases hc with rfl | rfl | rfl | rfl | rfl | rfl | rfl | rfl | rfl | rfl | rfl
  · exact hr (by kernel_rfl) (repeat_0 w)
  · exact hr (by kernel_rfl) (repeat_1 w)
  · exact hr (by kernel_rfl) (repeat_2 w)
  · exact hr (by kernel_rfl) (repeat_3 w)
  · exact hr (by kernel_rfl) (repeat_4 w)
  · exact hr (by kernel_rfl) (repeat_5 w)
  · exact hr (by kernel_rfl) (repeat_6 w)
  · exact hr (by kernel_rfl) (repeat_7 w)
  · exact hr (by kernel_rfl) (repeat_8 w)
  · exact hr (by kernel_rfl) (repeat_9 w)
  · exact hr (by kernel_rfl) (repeat_10 w)
theorem repeat_any {n : Int} {k : Nat} (h : n = (k : Int)) (hk : k ≤ 10) (w : World) : Calls Tryz.prog 68 #[.string ⟨#[48]⟩, .int .i64 n] w (RetB w (.string (strN (zeros k)))) := by
  subst h
  exact zeros_eq k hk w
end

section
open Go.RowKit

/-- one or more digits -/
def AllD (s : ByteArray) : Prop := (∀ k, k < s.size → 48 ≤ bt s k ∧ bt s k ≤ 57) ∧ 0 < s.size
set_option maxHeartbeats 1000000 in
theorem digits_true (w : World) (s : ByteArray) (hs : s.size ≤ 9223372036854775807) (h : AllD s) :
    Calls Tryz.prog 61 #[.string s] w fun e w' => e = .returned (.bool true) ∧ w = w' := by
  obtain ⟨hd, hpos⟩ := h
  have HD := hide hd
  have he : s.toList.isEmpty = false := by
    rw [List.isEmpty_eq_false_iff]; intro h; have := (is_empty s).1 h; omega
  clear hd
  go_enter Tryz.func61, Tryz.ntmps61
  go_wp2
  go_loop [6] (fun i => ∃ k : Nat, k ≤ s.size ∧ i = .int .i64 k) (fun i => s.size - (intOf i).toNat)
  case atStart => exact ⟨0, Nat.zero_le _, rfl⟩
  case round =>
    obtain ⟨k, hk, rfl⟩ := hrel
    by_cases hlt : k < s.size
    · have h1 := HD.out k hlt
      have hb := bt_get hlt
      go_wp2
      go_round
      case rel => exact ⟨k + 1, by omega, by go_num⟩
      case measure => simp [intOf]; omega
    · have hkm : k = s.size := by omega
      have HK := hide hkm
      clear hkm
      go_wp2
      go_ret
      exact ⟨rfl, rfl⟩
set_option maxHeartbeats 1000000 in
theorem digits_false (w : World) (s : ByteArray) (hs : s.size ≤ 9223372036854775807) (h : ¬ AllD s) :
    Calls Tryz.prog 61 #[.string s] w fun e w' => e = .returned (.bool false) ∧ w = w' := by
  have HN := hide h
  clear h
  go_enter Tryz.func61, Tryz.ntmps61
  go_wp2
  go_loop [6] (fun i => ∃ k : Nat, k ≤ s.size ∧ i = .int .i64 k ∧ Hid (∀ j, j < k → 48 ≤ bt s j ∧ bt s j ≤ 57)) (fun i => s.size - (intOf i).toNat)
  case atStart => exact ⟨0, Nat.zero_le _, rfl, hide fun j hj => by omega⟩
  case round =>
    obtain ⟨k, hk, rfl, hd⟩ := hrel
    by_cases hlt : k < s.size
    · have hb := bt_get hlt
      by_cases h1 : bt s k < 48
      · go_wp2
        go_ret
        exact ⟨rfl, rfl⟩
      · by_cases h2 : 57 < bt s k
        · go_wp2
          go_ret
          exact ⟨rfl, rfl⟩
        · have H1 := hide h1
          have H2 := hide h2
          have h3 : 48 ≤ bt s k ∧ bt s k ≤ 57 := by omega
          clear h1 h2
          go_wp2
          go_round
          case rel => exact ⟨k + 1, by omega, by go_num, hide fun j hj => by
            by_cases hj' : j < k
            · exact hd.out j hj'
            · have : j = k := by omega
              subst this; have := H1.out; have := H2.out; omega⟩
          case measure => simp [intOf]; omega
    · have hkm : k = s.size := by omega
      have hz : s.size = 0 := by
        rcases Nat.eq_zero_or_pos s.size with h | h
        · exact h
        · exact absurd ⟨by rw [hkm] at hd; exact hd.out, h⟩ HN.out
      have he : s.toList.isEmpty = true := by
        rw [List.isEmpty_iff]; exact (is_empty s).2 hz
      clear hkm hz
      go_wp2
      go_ret
      exact ⟨rfl, rfl⟩
theorem digits_any {s : ByteArray} (hs : s.size ≤ 9223372036854775807) {b : Bool} (hb : b = true ↔ AllD s) (w : World) : Calls Tryz.prog 61 #[.string s] w (RetB w (.bool b)) := by
  cases b
  · exact (digits_false w s hs (fun h => by have := hb.2 h; cases this)).mono fun e w' ⟨h1, h2⟩ => ⟨h1, by rw [← h2]; exact Below.refl _ _⟩
  · exact (digits_true w s hs (hb.1 rfl)).mono fun e w' ⟨h1, h2⟩ => ⟨h1, by rw [← h2]; exact Below.refl _ _⟩

set_option maxHeartbeats 1000000 in
theorem dvalue_any {s : ByteArray} (hs : s.size ≤ 9) (hd : ∀ k, k < s.size → 48 ≤ bt s k ∧ bt s k ≤ 57) {m : Nat} (hm : dvp s s.size = m) (w : World) :
    Calls Tryz.prog 65 #[.string s] w (RetB w (.int .u64 (m : Int))) := by
  have HD := hide hd
  have HM := hide hm
  clear hd hm
  go_enter Tryz.func65, Tryz.ntmps65
  go_wp2
  go_loop [3, 7] (fun v i => ∃ k : Nat, k ≤ s.size ∧ i = .int .i64 k ∧ v = .int .u64 (dvp s k : Int)) (fun _ i => s.size - (intOf i).toNat)
  case atStart => exact ⟨0, Nat.zero_le _, rfl, rfl⟩
  case round =>
    obtain ⟨k, hk, rfl, rfl⟩ := hrel
    by_cases hlt : k < s.size
    · have h1 := HD.out k hlt
      have h2 := dvp_lt (s := s) (k := k) (fun j hj => HD.out j (by omega))
      have h3 : 10 ^ k ≤ 10 ^ 8 := Nat.pow_le_pow_right (by omega) (by omega)
      have hS := hide (dvp_succ s k)
      have h4 : dvp s k < 100000000 := by omega
      clear h2 h3
      have hb := bt_get hlt
      go_wp2
      go_round
      case rel => exact ⟨k + 1, by omega, by go_num, by rw [hS.out]; go_num⟩
      case measure => simp [intOf]; omega
    · have hkm : k = s.size := by omega
      have HK := hide hkm
      clear hkm
      go_wp2
      go_ret
      rw [← HM.out, ← HK.out]
      exact ⟨rfl, Below.refl _ _⟩
end

section
open Go.RowKit Go.Shelf

/-- which of this program's functions, types and variables are those of the shelf's Trim -/
def Tryz.lays160_ren : Go.Shelf.Ren := ⟨fun | 160 => 102 | 232 => 135 | 231 => 134 | 227 => 136 | 234 => 138 | 233 => 137 | 236 => 140 | 235 => 139 | 228 => 157 | 271 => 160 | 151 => 159 | 197 => 158 | 120 => 170 | 152 => 169 | 260 => 168 | 137 => 172 | 119 => 173 | 224 => 155 | 225 => 154 | 217 => 153 | 266 => 166 | n => n, fun | 9 => 9 | 4 => 4 | 3 => 3 | 5 => 5 | 117 => 140 | 116 => 139 | 0 => 0 | 124 => 143 | 21 => 21 | 105 => 157 | 46 => 101 | 119 => 167 | 139 => 170 | 138 => 169 | n => n, fun | 3 => 1 | 4 => 2 | n => n⟩
theorem Tryz.lays160 : Go.Proofs.Lays.n160 Tryz.prog Tryz.lays160_ren := {
  mixed := by kernel_rfl
  f119 := Tryz.func173.trans (congrArg some (by kernel_rfl))
  f120 := Tryz.func170.trans (congrArg some (by kernel_rfl))
  f137 := Tryz.func172.trans (congrArg some (by kernel_rfl))
  f151 := Tryz.func159.trans (congrArg some (by kernel_rfl))
  f152 := Tryz.func169.trans (congrArg some (by kernel_rfl))
  f160 := Tryz.func102.trans (congrArg some (by kernel_rfl))
  f197 := Tryz.func158.trans (congrArg some (by kernel_rfl))
  f217 := Tryz.func153.trans (congrArg some (by kernel_rfl))
  f224 := Tryz.func155.trans (congrArg some (by kernel_rfl))
  f225 := Tryz.func154.trans (congrArg some (by kernel_rfl))
  f227 := Tryz.func136.trans (congrArg some (by kernel_rfl))
  f228 := Tryz.func157.trans (congrArg some (by kernel_rfl))
  f231 := Tryz.func134.trans (congrArg some (by kernel_rfl))
  f232 := Tryz.func135.trans (congrArg some (by kernel_rfl))
  f233 := Tryz.func137.trans (congrArg some (by kernel_rfl))
  f234 := Tryz.func138.trans (congrArg some (by kernel_rfl))
  f235 := Tryz.func139.trans (congrArg some (by kernel_rfl))
  f236 := Tryz.func140.trans (congrArg some (by kernel_rfl))
  f260 := Tryz.func168.trans (congrArg some (by kernel_rfl))
  f266 := Tryz.func166.trans (congrArg some (by kernel_rfl))
  f271 := Tryz.func160.trans (congrArg some (by kernel_rfl))
  t0 := Tryz.underlying0
  a0 := Tryz.isAgg0
  z0 := Tryz.sizeOf0
  v0 := Tryz.zeroValue0
  t3 := Tryz.underlying3
  a3 := Tryz.isAgg3
  z3 := Tryz.sizeOf3
  v3 := Tryz.zeroValue3
  t4 := Tryz.underlying4
  a4 := Tryz.isAgg4
  z4 := Tryz.sizeOf4
  v4 := Tryz.zeroValue4
  t5 := Tryz.underlying5
  a5 := Tryz.isAgg5
  z5 := Tryz.sizeOf5
  v5 := Tryz.zeroValue5
  t9 := Tryz.underlying9
  a9 := Tryz.isAgg9
  z9 := Tryz.sizeOf9
  v9 := Tryz.zeroValue9
  t21 := Tryz.underlying21
  a21 := Tryz.isAgg21
  z21 := Tryz.sizeOf21
  v21 := Tryz.zeroValue21
  t46 := Tryz.underlying101
  a46 := Tryz.isAgg101
  z46 := Tryz.sizeOf101
  v46 := Tryz.zeroValue101
  t105 := Tryz.underlying157
  a105 := Tryz.isAgg157
  z105 := Tryz.sizeOf157
  v105 := Tryz.zeroValue157
  t116 := Tryz.underlying139
  a116 := Tryz.isAgg139
  z116 := Tryz.sizeOf139
  t117 := Tryz.underlying140
  a117 := Tryz.isAgg140
  z117 := Tryz.sizeOf140
  v117 := Tryz.zeroValue140
  t119 := Tryz.underlying167
  a119 := Tryz.isAgg167
  z119 := Tryz.sizeOf167
  t124 := Tryz.underlying143
  a124 := Tryz.isAgg143
  z124 := Tryz.sizeOf143
  v124 := Tryz.zeroValue143
  t138 := Tryz.underlying169
  a138 := Tryz.isAgg169
  z138 := Tryz.sizeOf169
  v138 := Tryz.zeroValue169
  t139 := Tryz.underlying170
  a139 := Tryz.isAgg170
  z139 := Tryz.sizeOf170
  v139 := Tryz.zeroValue170
  g3 := by kernel_rfl
  g4 := by kernel_rfl }

theorem trim0_any (s : ByteArray) (hs : s.size ≤ 9223372036854775807) (w : World) :
    Calls Tryz.prog 102 #[.string s, .string ⟨#[48, 46]⟩] w (RetB w (.string ⟨(Lib.trimS s.data.toList [48, 46]).toArray⟩)) :=
  Any.strings_Trim_laid Tryz.lays160 (by kernel_rfl) s ⟨#[48, 46]⟩ w hs (by decide) (ascii_of_all (by decide))
/-- all bytes are zeros or points -/
def AllZ (s : ByteArray) : Prop := ∀ k, k < s.size → bt s k = 48 ∨ bt s k = 46
theorem dropAll {l : List UInt8} {p : UInt8 → Bool} : l.dropWhile p = [] ↔ ∀ x ∈ l, p x = true := by
  induction l with
  | nil => simp
  | cons a r ih =>
    rw [List.dropWhile_cons]
    by_cases h : p a = true
    · rw [if_pos h, ih]; simp [h]
    · rw [if_neg h]; simp [h]
theorem trimS_nil {l : List UInt8} : Lib.trimS l [48, 46] = [] ↔ ∀ x ∈ l, x = 48 ∨ x = 46 := by
  have hc : ∀ x : UInt8, ([48, 46] : List UInt8).contains x = true ↔ x = 48 ∨ x = 46 := fun x => by simp
  unfold Lib.trimS Lib.trimLeftS Lib.trimRightS
  rw [dropAll]
  constructor
  · intro h x hx
    rw [← hc x]
    by_cases hn : l.reverse.dropWhile (fun b => ([48, 46] : List UInt8).contains b) = []
    · exact dropAll.1 hn x (by simpa using hx)
    · exfalso
      obtain ⟨a, r, e⟩ := List.exists_cons_of_ne_nil hn
      have h1 := List.head_dropWhile_not (fun b => ([48, 46] : List UInt8).contains b) (l := l.reverse) (w := hn)
      have h2 := h ((l.reverse.dropWhile (fun b => ([48, 46] : List UInt8).contains b)).head hn) (by simp)
      rw [h2] at h1
      cases h1
  · intro h x hx
    rw [List.mem_reverse] at hx
    have := (List.dropWhile_sublist (p := fun b => ([48, 46] : List UInt8).contains b) (l := l.reverse)).mem hx
    exact (hc x).2 (h x (by simpa using this))
theorem mem_bt {s : ByteArray} : (∀ x ∈ s.data.toList, x = 48 ∨ x = 46) ↔ AllZ s := by
  constructor
  · intro h k hk
    have h1 : s.data.toList[k]? = some s[k] := by
      rw [Array.getElem?_toList]
      exact Array.getElem?_eq_getElem hk
    have h2 : bt s k = s[k].toNat := by unfold bt; rw [dif_pos hk]
    rw [h2]
    rcases h _ (List.mem_of_getElem? h1) with e | e <;> rw [e]
    · exact Or.inl rfl
    · exact Or.inr rfl
  · intro h x hx
    obtain ⟨k, hk, e⟩ := List.getElem_of_mem hx
    have hk' : k < s.size := by rw [Array.length_toList] at hk; exact hk
    have h2 : bt s k = s[k].toNat := by unfold bt; rw [dif_pos hk']
    have h3 : s.data.toList[k] = s[k] := by rw [Array.getElem_toList]; rfl
    have h4 := h k hk'
    rw [h2, ← h3, e] at h4
    rcases h4 with h4 | h4
    · exact Or.inl (UInt8.toNat_inj.1 h4)
    · exact Or.inr (UInt8.toNat_inj.1 h4)
set_option maxHeartbeats 1000000 in
theorem iszero_any {s : ByteArray} (hs : s.size ≤ 9223372036854775807) {b : Bool} (hb : b = true ↔ AllZ s) (w : World) : Calls Tryz.prog 62 #[.string s] w (RetB w (.bool b)) := by
  obtain ⟨t, ht⟩ : ∃ t : ByteArray, t = ⟨(Lib.trimS s.data.toList [48, 46]).toArray⟩ := ⟨_, rfl⟩
  have hc := trim0_any s hs w
  rw [← ht] at hc
  have he : t.toList.isEmpty = b := by
    rw [ht, Lib.toList_data]
    have h1 : (Lib.trimS s.data.toList [48, 46] = []) ↔ AllZ s := trimS_nil.trans mem_bt
    cases b
    · rw [List.isEmpty_eq_false_iff]; intro h; have := hb.2 (h1.1 h); cases this
    · rw [List.isEmpty_iff]; exact h1.2 (hb.1 rfl)
  clear ht hb
  replace hc := hide hc
  replace he := hide he
  go_enter Tryz.func62, Tryz.ntmps62
  go_wp2_with fail
  refine hc.out.mono ?_
  clear hc
  rintro e w' ⟨rfl, hb⟩
  replace hb := hide hb
  go_wp2
  go_ret
  exact ⟨by rw [he.out]; rfl, hb.out⟩
end
end Go.Proofs.YtdlmfembnmomjaaGreatDoor
