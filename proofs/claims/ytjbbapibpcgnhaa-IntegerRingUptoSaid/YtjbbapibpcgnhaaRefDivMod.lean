/-
  The reference's DivMod.
-/
import Derived.Test.YtjbbapibpcgnhaaRefDiv2
namespace Go.Proofs.Ytjbbapibpcgnhaa
open Go.RowKit

theorem rdivmod_any (w : World) (Bd : Nat) (A A' : Option Addr) (n c n' c' : Nat) (xs ys : List Nat) (hx : Rd w Bd A n c xs) (hy : Rd w Bd A' n' c' ys) (hB : Bd ≤ w.heap.size) (hn : n ≤ 35184372088000) (h0 : val ys ≠ 0) :
    Calls Try.prog 57 #[.slice A n c, .slice A' n' c'] w (RetDM w (val xs) (val ys)) := by
  have hl : (dig (val ys)).length ≠ 0 := fun h => h0 (dig_len_zero.1 h)
  by_cases h1 : (dig (val ys)).length = 1
  · exact rdiv_one w Bd A A' n c n' c' xs ys hx hy hB h1
  · by_cases h2 : bl (val xs) < bl (val ys)
    · exact rdiv_less w Bd A A' n c n' c' xs ys hx hy hB (by omega) h2
    · exact rdiv_long w Bd A A' n c n' c' xs ys hx hy hB (by omega) (by omega) hn

end Go.Proofs.Ytjbbapibpcgnhaa
