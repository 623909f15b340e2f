/-
  DrawsLists.
-/
import Derived.Test.YtdihgmbldnekhaaDrw10
import Derived.Test.YtdihgmbldnekhaaDrw3
import Derived.Test.YtdihgmbldnekhaaDrw6
import Derived.Test.YtdihgmbldnekhaaDrw8
namespace Go.Proofs.Ytdihgmbldnekhaa
open Go.RowKit

set_option maxHeartbeats 16000000 in
set_option maxRecDepth 100000 in
theorem lists_walk (hA : ∀ w : World, Calls Try.prog 27 #[] w (RetB w (.bool true))) {w : World} {d m c : Nat} {n : Int} {A : Option Addr} {xs : List Int} (hd : d < 18446744073709551616) (hn : I64 n) (hx : RdI w w.heap.size A m c xs) : Calls Try.prog 6 #[.int .u64 (d : Int), .int .i64 n, .slice A m c] w (RetB w (.bool true)) := by
  have B := hide (Below.refl w.heap.size w)
  have H_x := hide hx
  have hn0 := hn.1
  have hn1 := hn.2
  have hcap := hx.cap
  have hbig := hx.big
  have hcb := hx.cbig
  replace hn := hide hn
  clear hx
  go_enter Try.func6, Try.ntmps6
  go_wp2_with fail
  refine (shuffle_p hd hn.out).mono ?_
  rintro e w1 ⟨A_l, n_l, c_l, rfl, H_l, hb⟩
  replace H_x := hide (H_x.out.then_ hb)
  replace B := hide (Below.then_ B.out hb)
  clear hb
  replace H_l := hide H_l
  go_wp2_with fail
  refine (rshuffle_p hd hn.out).mono ?_
  rintro e w2 ⟨A_r, n_r, c_r, rfl, H_r, hb⟩
  replace H_x := hide (H_x.out.then_ hb)
  replace H_l := hide (H_l.out.then_ hb)
  replace B := hide (Below.then_ B.out hb)
  clear hb
  replace H_r := hide H_r
  go_wp2_with fail
  refine (eqi_p H_l.out H_r.out rfl).mono ?_
  rintro e w3 ⟨rfl, hb⟩
  replace H_x := hide (H_x.out.then_ hb)
  replace H_l := hide (H_l.out.then_ hb)
  replace H_r := hide (H_r.out.then_ hb)
  replace B := hide (Below.then_ B.out hb)
  clear hb
  clear H_l
  clear H_r
  go_wp2_with fail
  refine (pick_p hd H_x.out (Nat.le_refl _)).mono ?_
  rintro e w4 ⟨rfl, hb⟩
  replace H_x := hide (H_x.out.then_ hb)
  replace B := hide (Below.then_ B.out hb)
  clear hb
  go_wp2_with fail
  refine (rpick_p hd H_x.out (Nat.le_refl _)).mono ?_
  rintro e w5 ⟨rfl, hb⟩
  replace H_x := hide (H_x.out.then_ hb)
  replace B := hide (Below.then_ B.out hb)
  clear hb
  go_wp2_with fail
  refine (hA _).mono ?_
  rintro e w6 ⟨rfl, hb⟩
  replace H_x := hide (H_x.out.then_ hb)
  replace B := hide (Below.then_ B.out hb)
  clear hb
  go_wp2
  go_ret
  exact ⟨rfl, B.out⟩
end Go.Proofs.Ytdihgmbldnekhaa
