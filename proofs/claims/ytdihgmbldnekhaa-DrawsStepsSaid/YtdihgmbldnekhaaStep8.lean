/-
  DrawsSteps.
-/
import Derived.Test.YtdihgmbldnekhaaDrw10
import Derived.Test.YtdihgmbldnekhaaDrw3
namespace Go.Proofs.Ytdihgmbldnekhaa
open Go.RowKit

set_option maxHeartbeats 16000000 in
set_option maxRecDepth 100000 in
theorem steps_walk (hA : ∀ w : World, Calls Try.prog 27 #[] w (RetB w (.bool true))) {w : World} {a d : Nat} {n : Int} (ha : a < 18446744073709551616) (hd : d < 18446744073709551616) (hn : I64 n) : Calls Try.prog 4 #[.int .u64 (a : Int), .int .u64 (d : Int), .int .i64 n] w (RetB w (.bool true)) := by
  have B := hide (Below.refl w.heap.size w)
  have hn0 := hn.1
  have hn1 := hn.2
  replace hn := hide hn
  go_enter Try.func4, Try.ntmps4
  go_wp2_with fail
  refine (next_p hd).mono ?_
  rintro e w1 ⟨rfl, hb⟩
  replace B := hide (Below.then_ B.out hb)
  clear hb
  go_wp2_with fail
  refine (rnext_p hd).mono ?_
  rintro e w2 ⟨rfl, hb⟩
  replace B := hide (Below.then_ B.out hb)
  clear hb
  go_wp2_with fail
  refine (new_p ha).mono ?_
  rintro e w3 ⟨rfl, hb⟩
  replace B := hide (Below.then_ B.out hb)
  clear hb
  go_wp2_with fail
  refine (rnew_p ha).mono ?_
  rintro e w4 ⟨rfl, hb⟩
  replace B := hide (Below.then_ B.out hb)
  clear hb
  go_wp2_with fail
  refine (skip_p hd hn.out).mono ?_
  rintro e w5 ⟨rfl, hb⟩
  replace B := hide (Below.then_ B.out hb)
  clear hb
  go_wp2_with fail
  refine (rskip_p hd hn.out).mono ?_
  rintro e w6 ⟨rfl, hb⟩
  replace B := hide (Below.then_ B.out hb)
  clear hb
  go_wp2_with fail
  refine (hA _).mono ?_
  rintro e w7 ⟨rfl, hb⟩
  replace B := hide (Below.then_ B.out hb)
  clear hb
  go_wp2
  go_ret
  exact ⟨rfl, B.out⟩
end Go.Proofs.Ytdihgmbldnekhaa
