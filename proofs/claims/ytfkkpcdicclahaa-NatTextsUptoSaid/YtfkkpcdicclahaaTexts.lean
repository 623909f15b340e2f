/-
  The walk of examboardlaw01.NatTexts.
-/
import Derived.Test.YtfkkpcdicclahaaAwake
import Derived.Test.YtfkkpcdicclahaaRefText
import Derived.Test.YtfkkpcdicclahaaRefParse0
import Derived.Test.YtfkkpcdicclahaaRefParse
import Derived.Test.YtfkkpcdicclahaaSame
namespace Go.Proofs.Ytfkkpcdicclahaa
open Go.RowKit

/-- a number, and an error's number -/
def RetPV (w : World) (m : Nat) (k : Int) (e : Ending) (w' : World) : Prop :=
  ∃ A c, e = .returned (.tuple #[.slice A (dig m).length c, .int .i64 k]) ∧ Rd w' w'.heap.size A (dig m).length c (dig m) ∧ Below w.heap.size w w'
theorem RetErr.pv {w : World} {k : Int} {e : Ending} {w' : World} (h : RetErr w k e w') : RetPV w 0 k e w' := by
  obtain ⟨rfl, rfl⟩ := h
  exact ⟨none, 0, by rw [dig_zero]; rfl, by rw [dig_zero]; exact Rd.empty _ _ _ (by omega), Below.refl _ _⟩
theorem parse_both (s : ByteArray) (hs : s.size ≤ 9223372036854775807) : ∃ (m : Nat) (k : Int), (∀ w, Calls Try.prog 36 #[.string s] w (RetPV w m k)) ∧ ∀ w, Calls Try.prog 37 #[.string s] w (RetPV w m k) := by
  by_cases h : IsNum s
  · by_cases hl : s.size ≤ 400
    · exact ⟨dvp s s.size, 0, fun w => parse_ok w s h hl, fun w => rparse_ok w s h hl⟩
    · exact ⟨0, 5, fun w => (parse_long w s hs h (by omega)).mono fun _ _ => RetErr.pv, fun w => (rparse_long w s hs h (by omega)).mono fun _ _ => RetErr.pv⟩
  · exact ⟨0, 2, fun w => (parse_syntax w s hs h).mono fun _ _ => RetErr.pv, fun w => (rparse_syntax w s hs h).mono fun _ _ => RetErr.pv⟩

set_option maxHeartbeats 8000000 in
theorem texts_walk (w : World) (s : ByteArray) (hs : s.size ≤ 9223372036854775807) (Aa : Option Addr) (na ca : Nat) (xa : List Nat) (ha : Rd w w.heap.size Aa na ca xa) (ka : na ≤ 1048576) :
    Calls Try.prog 7 #[.string s, .slice Aa na ca] w fun e w' => e = .returned (.bool true) ∧ Below w.heap.size w w' := by
  obtain ⟨m, k, hp1, hp2⟩ := parse_both s hs
  replace hp1 := hide hp1
  replace hp2 := hide hp2
  have R_a := hide ha
  clear ha
  obtain ⟨sp, hsp⟩ : ∃ sp, sp = strN (dec (val xa)) := ⟨_, rfl⟩
  replace hsp := hide hsp
  have B := hide (Below.refl w.heap.size w)
  go_enter Try.func7, Try.ntmps7
  have hc : Calls Try.prog 36 #[.string s] w (RetPV w (m) k) := by
    have := hp1.out w
    repeat (first | rw [val_dig] at this)
    exact this
  replace hc := hide hc
  go_wp2_with fail
  refine hc.out.mono ?_
  clear hc
  rintro e w1 ⟨A_p1, c_p1, rfl, R_p1, hb⟩
  have l_p1 : (dig (m)).length ≤ 70368744177664 := R_p1.big
  obtain ⟨n_p1, hn⟩ : ∃ n_p1, n_p1 = (dig (m)).length := ⟨_, rfl⟩
  rw [← hn] at R_p1 l_p1 ⊢
  clear hn
  replace R_a := hide ((R_a.out.below hb).more hb.size)
  replace B := hide (B.out.trans (hb.mono B.out.size))
  clear hb
  replace R_p1 := hide R_p1
  have hc : Calls Try.prog 37 #[.string s] w1 (RetPV w1 (m) k) := by
    have := hp2.out w1
    repeat (first | rw [val_dig] at this)
    exact this
  replace hc := hide hc
  go_wp2_with fail
  refine hc.out.mono ?_
  clear hc
  rintro e w2 ⟨A_p2, c_p2, rfl, R_p2, hb⟩
  have l_p2 : (dig (m)).length ≤ 70368744177664 := R_p2.big
  obtain ⟨n_p2, hn⟩ : ∃ n_p2, n_p2 = (dig (m)).length := ⟨_, rfl⟩
  rw [← hn] at R_p2 l_p2 ⊢
  clear hn
  replace R_a := hide ((R_a.out.below hb).more hb.size)
  replace R_p1 := hide ((R_p1.out.below hb).more hb.size)
  replace B := hide (B.out.trans (hb.mono B.out.size))
  clear hb
  replace R_p2 := hide R_p2
  have hc := hide (same_true w2 w2.heap.size w2.heap.size A_p1 A_p2 n_p1 c_p1 n_p2 c_p2 _ _ R_p1.out R_p2.out (rfl))
  go_wp2_with fail
  refine hc.out.mono ?_
  clear hc
  rintro e w' ⟨rfl, q, rfl⟩
  have hb : Below w2.heap.size w2 (w2.drewN q) := below_drewN (Below.refl _ _) q
  generalize w2.drewN q = w3 at *
  replace R_a := hide ((R_a.out.below hb).more hb.size)
  replace R_p1 := hide ((R_p1.out.below hb).more hb.size)
  replace R_p2 := hide ((R_p2.out.below hb).more hb.size)
  replace B := hide (B.out.trans (hb.mono B.out.size))
  clear hb
  clear R_p1
  clear R_p2
  have hc : Calls Try.prog 38 #[.slice Aa na ca] w3 fun e w' => e = .returned (.string sp) ∧ Below w3.heap.size w3 w' := by
    have := print_any w3 w3.heap.size Aa na ca _ R_a.out (Nat.le_refl _) (by omega)
    rw [← hsp.out] at this
    exact this
  replace hc := hide hc
  go_wp2_with fail
  refine hc.out.mono ?_
  clear hc
  rintro e w4 ⟨rfl, hb⟩
  replace R_a := hide ((R_a.out.below hb).more hb.size)
  replace B := hide (B.out.trans (hb.mono B.out.size))
  clear hb
  have hc : Calls Try.prog 39 #[.slice Aa na ca] w4 fun e w' => e = .returned (.string sp) ∧ Below w4.heap.size w4 w' := by
    have := rprint_any w4 w4.heap.size Aa na ca _ R_a.out (Nat.le_refl _) (by omega)
    rw [← hsp.out] at this
    exact this
  replace hc := hide hc
  go_wp2_with fail
  refine hc.out.mono ?_
  clear hc
  rintro e w5 ⟨rfl, hb⟩
  replace R_a := hide ((R_a.out.below hb).more hb.size)
  replace B := hide (B.out.trans (hb.mono B.out.size))
  clear hb
  go_wp2_with fail
  refine (awake_any w5).mono ?_
  rintro e w6 ⟨rfl, hb⟩
  replace B := hide (B.out.trans (hb.mono B.out.size))
  clear hb
  go_wp2
  go_ret
  exact ⟨rfl, B.out⟩

end Go.Proofs.Ytfkkpcdicclahaa
