/-
  DrawsNumbers.
-/
import Derived.Test.YtdihgmbldnekhaaDrw10
import Derived.Test.YtdihgmbldnekhaaDrw3
namespace Go.Proofs.Ytdihgmbldnekhaa
open Go.RowKit

set_option maxHeartbeats 16000000 in
set_option maxRecDepth 100000 in
theorem numbers8_walk (hA : ∀ w : World, Calls Try.prog 27 #[] w (RetB w (.bool true))) {w : World} {d : Nat} {n : Int} {p : Rc} {q : Rat} (hd : d < 18446744073709551616) (hn : I64 n) (h_p : Rq w w.heap.size 1048576 p q) : Calls Try.prog 5 #[.int .u64 (d : Int), .int .i64 n, .agg #[.bool p.s, .slice p.A p.n p.c, .slice p.B p.m p.d]] w (RetB w (.bool true)) := by
  obtain ⟨W, hW⟩ : ∃ W, W = (w.alloc (.cells #[.bool p.s, .slice p.A p.n p.c, .slice p.B p.m p.d] 27)) := ⟨_, rfl⟩
  have b_p := hide (show Box3 W (w.heap.size) (.bool p.s) (.slice p.A p.n p.c) (.slice p.B p.m p.d) by rw [hW]; exact (Box3.new w _ _ _ rfl))
  have hwW : Below w.heap.size w W := by rw [hW]; exact (Below.al_ (Below.refl _ _) _)
  have H_p := hide (h_p.upto hwW (Nat.le_refl _))
  clear h_p
  have B := hide hwW
  clear hwW
  have hn0 := hn.1
  have hn1 := hn.2
  replace hn := hide hn
  go_enter Try.func5, Try.ntmps5
  go_wp2_with fail
  rw [← hW]
  clear hW
  refine (below_p hd hn.out).mono ?_
  rintro e w1 ⟨rfl, hb⟩
  replace H_p := hide (H_p.out.then_ hb)
  replace b_p := hide (b_p.out.keep hb)
  replace B := hide (Below.then_ B.out hb)
  clear hb
  go_wp2_with fail
  refine (rbelow_p hd hn.out).mono ?_
  rintro e w2 ⟨rfl, hb⟩
  replace H_p := hide (H_p.out.then_ hb)
  replace b_p := hide (b_p.out.keep hb)
  replace B := hide (Below.then_ B.out hb)
  clear hb
  have c_p0 := b_p.out.at0 b_p.out.lt_size (Nat.le_refl _) _ (Below.refl _ _)
  have c_p1 := b_p.out.at1 b_p.out.lt_size (Nat.le_refl _) _ (Below.refl _ _)
  have c_p2 := b_p.out.at2 b_p.out.lt_size (Nat.le_refl _) _ (Below.refl _ _)
  go_wp2_with fail
  refine (chance_p hd H_p.out (by decide) (Nat.le_refl _)).mono ?_
  rintro e w3 ⟨rfl, hb⟩
  replace H_p := hide (H_p.out.then_ hb)
  replace b_p := hide (b_p.out.keep hb)
  replace B := hide (Below.then_ B.out hb)
  clear hb
  clear c_p0 c_p1 c_p2
  have c_p0 := b_p.out.at0 b_p.out.lt_size (Nat.le_refl _) _ (Below.refl _ _)
  have c_p1 := b_p.out.at1 b_p.out.lt_size (Nat.le_refl _) _ (Below.refl _ _)
  have c_p2 := b_p.out.at2 b_p.out.lt_size (Nat.le_refl _) _ (Below.refl _ _)
  go_wp2_with fail
  refine (rchance_p hd H_p.out (by decide) (Nat.le_refl _)).mono ?_
  rintro e w4 ⟨rfl, hb⟩
  replace H_p := hide (H_p.out.then_ hb)
  replace b_p := hide (b_p.out.keep hb)
  replace B := hide (Below.then_ B.out hb)
  clear hb
  clear c_p0 c_p1 c_p2
  go_wp2_with fail
  refine (hA _).mono ?_
  rintro e w5 ⟨rfl, hb⟩
  replace H_p := hide (H_p.out.then_ hb)
  replace b_p := hide (b_p.out.keep hb)
  replace B := hide (Below.then_ B.out hb)
  clear hb
  go_wp2
  go_ret
  exact ⟨rfl, B.out⟩
end Go.Proofs.Ytdihgmbldnekhaa
