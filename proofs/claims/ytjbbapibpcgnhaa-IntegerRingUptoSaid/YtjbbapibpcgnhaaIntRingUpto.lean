/-
  What is proved: examboardlaw02.IntegerRing answers true and leaves its arguments as they were: integers form a commutative ring without zero divisors.
  Conditions: the arguments hold together at most 1048576 values and letters (the statement '..UptoSaid').
-/
import Derived.Test.YtjbbapibpcgnhaaIntRing
import Derived.Test.YtjbbapibpcgnhaaOpenInt
namespace Go.Proofs.Ytjbbapibpcgnhaa.integerRing
open Go.ChangeShapes Go.WideShapes Go.ChangeAt Go.RowKit
open Go.ChangeMaps (open_string shut_string)

theorem contract (H : Type) (enc : TypeId × Value → H) (W : World) (base : Nat) (args : Array Value) (ds gs : List (DataW H)) (before : List MemPlace)
    (hval : ∀ (j : Nat) t v, Try.f6.params[j]? = some t → args[j]? = some v → Value.okWide Try.prog W .any base t v)
    (hW : DataW.Whole enc Try.prog Try.f6.params.toList Rows.integerRingSpec.vars false W args.toList ds gs before) (hk : Rows.uptoSmall H (ds ++ gs) = true) :
    Calls Try.prog 6 args W fun e W' => ∃ v, e = .returned v ∧ Rows.integerRingSpec.post enc Try.prog Try.f6 false true false false W args v W' := by
  have hW' := hW
  obtain ⟨p, q, hA0, hV, rfl, hfz, hnd⟩ := hW
  have hA : DataW.TrodAll enc Try.prog W 0 (fun _ => true) true Try.f6.params.toList args.toList ds p := hA0
  rw [Try.params6] at hA hval
  obtain ⟨v0, vs0, d0, ds0, p0, q0, hargs, rfl, rfl, h0, r0⟩ := trodAll_cons hA
  obtain ⟨v1, vs1, d1, ds1, p1, q1, rfl, rfl, rfl, h1, r1⟩ := trodAll_cons r0
  obtain ⟨v2, vs2, d2, ds2, p2, q2, rfl, rfl, rfl, h2, r2⟩ := trodAll_cons r1
  obtain ⟨rfl, rfl, rfl⟩ := trodAll_nil r2
  obtain rfl : args = #[v0, v1, v2] := by cases args; simp_all
  obtain ⟨rfl, rfl⟩ := trodVars_none hV
  obtain ⟨g0, a0, l0, c0, x0, rfl, hR0, y0, rfl, hd0⟩ := open_int_agg (hval 0 25 v0 rfl rfl) h0
  obtain ⟨g1, a1, l1, c1, x1, rfl, hR1, y1, rfl, hd1⟩ := open_int_agg (hval 1 25 v1 rfl rfl) h1
  obtain ⟨g2, a2, l2, c2, x2, rfl, hR2, y2, rfl, hd2⟩ := open_int_agg (hval 2 25 v2 rfl rfl) h2
  clear hA0
  simp only [List.append_nil] at hW' hk
  have hlt0 : ∀ x ∈ p0, x.block < W.heap.size := fun x hx => by simpa using hW'.lt x (by simp [hx])
  have hn0 : l0 ≤ 1048576 := bulk_int (x := .lit (.bool g0)) (y := y0) hk (by simp) hd0
  replace hR0 := hR0 (by omega)
  have hlt1 : ∀ x ∈ p1, x.block < W.heap.size := fun x hx => by simpa using hW'.lt x (by simp [hx])
  have hn1 : l1 ≤ 1048576 := bulk_int (x := .lit (.bool g1)) (y := y1) hk (by simp) hd1
  replace hR1 := hR1 (by omega)
  have hlt2 : ∀ x ∈ p2, x.block < W.heap.size := fun x hx => by simpa using hW'.lt x (by simp [hx])
  have hn2 : l2 ≤ 1048576 := bulk_int (x := .lit (.bool g2)) (y := y2) hk (by simp) hd2
  replace hR2 := hR2 (by omega)
  refine (ring_walk W g0 a0 l0 c0 x0 g1 a1 l1 c1 x1 g2 a2 l2 c2 x2 hR0 hn0 hR1 hn1 hR2 hn2).mono fun e W' ⟨he, hb⟩ => ?_
  subst he
  exact ⟨_, rfl, _, _, _, [], _, [], hW', trodAll_mk1 (shut_bool Try.underlying4 _), (trodAll_cons_mk (Below.trod Try.laidOut Try.readInt Try.typesInt h0 hb hlt0) (trodAll_cons_mk (Below.trod Try.laidOut Try.readInt Try.typesInt h1 hb hlt1) (trodAll_cons_mk (Below.trod Try.laidOut Try.readInt Try.typesInt h2 hb hlt2) trodAll_mk0))), rfl, hb.frame _, fun h => by cases h⟩

set_option maxRecDepth 100000 in
theorem lifted (os : Os) (started : os.Started) (H : Type) (enc : TypeId × Value → H) (F : Stop.Interp) :
    ReturnsInHanded {} Try.checked os 6 .any ((Rows.OpenSpec.upto Rows.integerRingSpec).pre6 enc Try.prog Try.f6 Rows.integerRingUptoRow.domain false) (((Rows.OpenSpec.upto Rows.integerRingSpec).at F).post enc Try.prog Try.f6 false true false false) := by
  refine returnsInHanded_of_cond (C := Try.checked) (s := Rows.OpenSpec.upto Rows.integerRingSpec) (k := Rows.uptoSmall) rfl Try.own started (by kernel_rfl) Try.func6
    (OpenSpec.witness (enc := enc) (C := Try.checked) (s := Rows.OpenSpec.upto Rows.integerRingSpec) (k := Rows.uptoSmall) rfl false ⟨#[], #[.agg #[.bool false, .slice none 0 0], .agg #[.bool false, .slice none 0 0], .agg #[.bool false, .slice none 0 0]], []⟩ 8 (by kernel_rfl) (by kernel_rfl) (by kernel_rfl)
      (x := ([.agg [.lit (.bool false), .nil], .agg [.lit (.bool false), .nil], .agg [.lit (.bool false), .nil]], [], [])) (by kernel_rfl) rfl (by kernel_rfl)) ?_
  intro W base args ds gs before hval hW _ hk _
  exact contract H enc W base args ds gs before hval hW hk

theorem proved : Rows.IntegerRingUptoSaid :=
  OpenClaim.holds_of_cond 6 Try.f6 rfl rfl rfl rfl rfl rfl rfl ⟨rfl, rfl, rfl, rfl, rfl⟩ rfl rfl rfl rfl rfl (by kernel_rfl) Try.func6 (by kernel_rfl)
    (of_decide_eq_true (by kernel_rfl)) (by unfold Func.isWrapper; first | (rw [if_pos (by decide +kernel)]; kernel_rfl) | (rw [if_neg (by decide +kernel)]; exact ⟨rfl, rfl⟩))
    (fun os started H enc _ F => lifted os started H enc F)
end Go.Proofs.Ytjbbapibpcgnhaa.integerRing
