/-
  slices.Clone of ints; Next.
-/
import Derived.Test.YtdakfpapigieiaaCombI
import Derived.Lib.SliceRun
namespace Go.Proofs.Ytdakfpapigieiaa
open Go.RowKit Go.Builtin

theorem sq_snoc : ∀ (a t : Nat), sq a (t + 1) = sq a t ++ [a + t]
  | _, 0 => rfl
  | a, t + 1 => by rw [sq, sq_snoc (a + 1) t, sq, List.cons_append, show a + 1 + t = a + (t + 1) by omega]
theorem zs_set {a : List Nat} {y J : Nat} {r : List Nat} {z : Int} (h : a.length = J) : (zsI (a ++ y :: r)).set J z = zsI a ++ z :: zsI r := by
  subst h
  simp [zsI]
theorem zs_mid (a : List Nat) (v : Nat) (r : List Nat) : zsI a ++ (v : Int) :: zsI r = zsI (a ++ ([v] ++ r)) := by simp [zsI]
noncomputable def nxB (n : Int) (xs : List Int) : Bool := sbsB n xs && (nxt n.toNat (nsI xs)).isSome
noncomputable def nxI (n : Int) (xs : List Int) : List Int := if sbsB n xs = true then zsI ((nxt n.toNat (nsI xs)).getD []) else []
theorem nx_bad {n : Int} {xs : List Int} (h : sbsB n xs = false) : nxB n xs = false ∧ nxI n xs = [] := ⟨by rw [nxB, h]; rfl, by rw [nxI, if_neg (by rw [h]; simp)]⟩
theorem nx_some {N : Nat} {xs : List Int} {ys l : List Nat} (h : sbsB (N : Int) xs = true) (hy : xs = zsI ys) (hn : nxt N ys = some l) : nxB (N : Int) xs = true ∧ nxI (N : Int) xs = zsI l := by
  subst hy
  constructor
  · rw [nxB, h, ns_zs, Int.toNat_natCast, hn]; rfl
  · rw [nxI, if_pos h, ns_zs, Int.toNat_natCast, hn]; rfl
theorem nx_none {N : Nat} {xs : List Int} {ys : List Nat} (h : sbsB (N : Int) xs = true) (hy : xs = zsI ys) (hn : nxt N ys = none) : nxB (N : Int) xs = false ∧ nxI (N : Int) xs = [] := by
  subst hy
  constructor
  · rw [nxB, h, ns_zs, Int.toNat_natCast, hn]; rfl
  · rw [nxI, if_pos h, ns_zs, Int.toNat_natCast, hn]; rfl
theorem Ris.drop {N : Nat} : ∀ {f : Nat} {ys : List Nat} {i : Nat}, Ris N f ys → ∃ f', Ris N f' (ys.drop i)
  | f, _, 0, h => ⟨f, h⟩
  | f, [], _ + 1, _ => ⟨f, trivial⟩
  | _, _ :: t, i + 1, ⟨_, _, h⟩ => Ris.drop (ys := t) (i := i) h
/-- a list of the call's own, with room -/
theorem OwnI.cell {w : World} {B g c : Nat} {xs : List Int} {n : Nat} (h : OwnI w B (.slice (some ⟨g, 0, none⟩) n c) xs) {j : Nat} (hj : j < xs.length) : w.cell? ⟨g, j, none⟩ = some (.int .i64 (li xs j)) := by
  have := h.1.cells (g := g) rfl j (.int .i64 (li xs j)) (by rw [List.getElem?_map, li_get? hj]; rfl)
  rwa [Addr.add_lit, Nat.zero_add] at this
theorem OwnI.frozen {w : World} {B g c : Nat} {xs : List Int} {n : Nat} (h : OwnI w B (.slice (some ⟨g, 0, none⟩) n c) xs) (j : Nat) : w.frozen? ⟨g, j, none⟩ = false := by
  obtain ⟨cur, hg, _⟩ := h.2.2 g rfl
  exact frozen_of_row w g j cur _ hg
theorem OwnI.set {w : World} {B g c : Nat} {xs : List Int} {n : Nat} (h : OwnI w B (.slice (some ⟨g, 0, none⟩) n c) xs) {j : Nat} {z : Int} (hz : I64 z) : OwnI (w.setCell ⟨g, j, none⟩ (.int .i64 z)) B (.slice (some ⟨g, 0, none⟩) n c) (xs.set j z) := by
  obtain ⟨h1, h2, h3⟩ := h
  obtain ⟨cur, hg, hc⟩ := h3 g rfl
  refine ⟨⟨by simp, ?_⟩, fun i => ?_, fun g' hg' => ?_⟩
  · rcases h1.2 with ⟨h, _⟩ | ⟨g', cap, cur', hv, hB, hgg, q1, q2, q3, q4⟩
    · simp at h
    · simp only [Value.slice.injEq, Option.some.injEq, Addr.mk.injEq, and_true] at hv
      obtain ⟨rfl, rfl, rfl⟩ := hv
      rw [hg] at hgg
      simp only [Option.some.injEq, Obj.cells.injEq, and_true] at hgg
      subst hgg
      refine .inr ⟨g, c, cur.setIfInBounds j (.int .i64 z), by simp, hB, heap_setCell_same w g j cur _ _ hg, by simpa using q1, q2, by simpa using q3, ?_⟩
      rw [Array.toList_setIfInBounds, List.length_set, List.take_set, q4, List.map_set]
  · by_cases e : i = j
    · subst e
      by_cases hl : i < xs.length
      · rw [show li (xs.set i z) i = z by simp [li, List.getD, hl]]; exact hz
      · rw [List.set_eq_of_length_le (by omega)]; exact h2 i
    · rw [show li (xs.set j z) i = li xs i by simp [li, List.getD, show ¬ j = i by omega]]; exact h2 i
  · simp only [Value.ownBlock, Option.some.injEq] at hg'
    subst hg'
    refine ⟨_, heap_setCell_same w g j cur _ _ hg, fun i u hu => ?_⟩
    rw [Array.getElem?_setIfInBounds] at hu
    split at hu
    · split at hu
      · exact ⟨z, by simpa using hu.symm⟩
      · cases hu
    · exact hc i u hu
theorem OwnI.empty (w : World) {B : Nat} (hB : B ≤ w.heap.size) : OwnI (w.alloc (.cells #[] 3)) B (.slice (some ⟨w.heap.size, 0, none⟩) 0 0) [] :=
  ⟨World.ownsRow_made w _ 0 hB (by simp [maxLen]) (by simp), fun j => (by simp [li, I64]), fun g hg => by
    simp only [Value.ownBlock, Option.some.injEq] at hg
    subst hg
    exact ⟨_, heap_alloc_new w _, fun j u hu => by simp at hu⟩⟩
set_option maxHeartbeats 2000000 in
theorem clone_any {w : World} {Bd n c : Nat} {A : Option Addr} {xs : List Int} (hx : RdI w Bd A n c xs) (hB : Bd ≤ w.heap.size) (h0 : 0 < n) (hn : n ≤ 1000000) :
    Calls Try.prog 41 #[.slice A n c] w (fun e w' => ∃ (g c' : Nat), e = .returned (.slice (some ⟨g, 0, none⟩) n c') ∧ OwnI w' w.heap.size (.slice (some ⟨g, 0, none⟩) n c') xs ∧ n ≤ c' ∧ c' ≤ 9223372036854775807 ∧ Below w.heap.size w w') := by
  obtain ⟨ad, rfl, hadb, hca⟩ := hx.cells h0
  have hca' := hide hca
  have hl := hide hx.len
  have hwf := hide hx.wf
  have hB' := hide hB
  clear hca hx hB
  have hnil : ∀ w : World, (binOp .eql 29 (.slice (some ad) n c) (.slice none 0 0)).run Try.prog w = .ok (.bool false) w := fun w => Lib.run_eql_slice_nil w _ _ _ _ _ _ _ Try.underlying29
  go_enter Try.func41, Try.ntmps41
  go_wp2_with (at_builtin; refine wpList_append_ints rfl (.tmp 5) (.tmp 6) rfl w.heap.size _ [] xs rfl (OwnI.empty w (Nat.le_refl _)) ad n c rfl hl.out (fun j hj => (((Below.refl w.heap.size w).alloc (Nat.le_refl _) _).cell (by rw [block_add]; have := hB'.out; omega)).trans (hca'.out j hj)) hwf.out (by simp; omega) (by simp) ?_; intro v' w1 hO hg)
  have hB1 := hide ((OwnI.empty w (Nat.le_refl _)).below hg ((Below.refl w.heap.size w).alloc (Nat.le_refl _) _) (by simp))
  rw [List.nil_append] at hO
  obtain ⟨g, c', rfl, hc1, hc2⟩ : ∃ (g c' : Nat), v' = .slice (some ⟨g, 0, none⟩) n c' ∧ n ≤ c' ∧ c' ≤ 9223372036854775807 := by
    rcases hO.1.2 with ⟨_, h⟩ | ⟨g, cap, cur, rfl, _, _, q1, q2, _⟩
    · have := hl.out; omega
    · rw [hl.out] at q1 ⊢
      exact ⟨g, cap, rfl, q1, by simp only [maxLen] at q2; omega⟩
  replace hO := hide hO
  clear hg
  go_wp2
  go_ret
  exact ⟨g, c', rfl, hO.out, hc1, hc2, hB1.out⟩
set_option maxHeartbeats 8000000 in
set_option maxRecDepth 100000 in
theorem next_any {w : World} {Bd m c : Nat} {A : Option Addr} {xs : List Int} {n : Int} (hx : RdI w Bd A m c xs) (hB : Bd ≤ w.heap.size) : Calls Try.prog 20 #[.int .i64 n, .slice A m c] w (RetLB w (nxI n xs) (nxB n xs)) := by
  have hcap := hx.cap
  have hbig := hx.big
  have hcb := hx.cbig
  have HX := hide (hx.more hB)
  have B := hide (Below.refl w.heap.size w)
  have hl := hide hx.len
  clear hx hB
  obtain ⟨ok, hok⟩ : ∃ b, sbsB n xs = b := ⟨_, rfl⟩
  cases ok with
  | false =>
    rw [(nx_bad hok).1, (nx_bad hok).2]
    replace hok := hide hok
    go_enter Try.func20, Try.ntmps20
    go_wp2_with fail
    refine (issubset_any (n := n) HX.out (Nat.le_refl _)).mono ?_
    rw [hok.out]
    rintro e w1 ⟨rfl, hb⟩
    replace B := hide (Below.then_ B.out hb)
    clear hb
    go_wp2
    go_ret2
    exact lb_nil rfl B.out
  | true =>
    obtain ⟨N, ys, rfl, hN, hxs, hris, _⟩ := sbs_yes hok
    have hyl : ys.length = m := by have := hl.out; rw [hxs, zs_length] at this; exact this
    have hmN : m ≤ N := by rw [← hyl]; exact hris.length_le (by omega)
    have HY := hide (show RdI w w.heap.size A m c (zsI ys) by rw [← hxs]; exact HX.out)
    have hok' := hide hok
    have hxs' := hide hxs
    have hyl' := hide hyl
    replace hris := hide hris
    clear hxs hyl hok
    go_enter Try.func20, Try.ntmps20
    go_wp2_with fail
    refine (issubset_any (n := (N : Int)) HX.out (Nat.le_refl _)).mono ?_
    rw [hok'.out]
    rintro e w1 ⟨rfl, hb⟩
    replace B := hide (Below.then_ B.out hb)
    clear hb
    go_wp2
    go_loopw [6] (fun i wr => ∃ (k : Nat) (z : Int), k ≤ m ∧ z + 1 = (k : Int) ∧ i = .int .i64 z ∧ Hid (ys.drop k = sq (N - (m - k)) (m - k)) ∧ Hid (Below w.heap.size w wr)) (fun i _ => (intOf i + 1).toNat)
    case atStart => exact ⟨m, (m : Int) - 1, by omega, by omega, by go_num, hide (by rw [← hyl'.out, List.drop_length, Nat.sub_self]; rfl), B⟩
    case round =>
      obtain ⟨k, z, hk, hz, rfl, hdr, B2⟩ := hrel
      clear B
      by_cases hk0 : k = 0
      · subst hk0
        obtain rfl : z = -1 := by omega
        have hno := hide (nx_none (N := N) (ys := ys) hok'.out hxs'.out (by
          have h := hdr.out
          rw [List.drop_zero, Nat.sub_zero] at h
          rw [h]
          exact nxt_last hmN))
        go_wp2
        go_ret2
        rw [hno.out.1, hno.out.2]
        exact lb_nil rfl B2.out
      · obtain ⟨i', rfl⟩ : ∃ j, k = j + 1 := ⟨k - 1, by omega⟩
        obtain rfl : z = (i' : Int) := by omega
        obtain ⟨q, t, hdq, hliq, hdt⟩ := drop_at (ys := ys) (i := i') (by have := hyl'.out; omega)
        obtain ⟨ad, rfl, hadb, hca⟩ := (HY.out.then_ B2.out).at_ (k := i') (by omega)
        rw [hliq] at hca
        have hi64 : (i' : Int) < (m : Int) := by omega
        have htl : t.length = m - 1 - i' := by
          have h1 : (ys.drop i').length = ys.length - i' := List.length_drop
          rw [hdq, List.length_cons, hyl'.out] at h1
          omega
        obtain ⟨f', hrd⟩ := hris.out.drop (i := i')
        rw [hdq] at hrd
        have hqN : q < N := hrd.2.1
        have hql : t.length ≤ N - (q + 1) := hrd.2.2.length_le (by omega)
        have htq := hide (show t = sq (N - (m - (i' + 1))) (m - (i' + 1)) by rw [← hdt]; exact hdr.out)
        have hdqh := hide hdq
        have hliqh := hide hliq
        clear hdt hdq hliq hrd hz hk0
        by_cases hgrow : (q : Int) < (N : Int) - ((m : Int) - (i' : Int))
        · have d1 : decide ((q : Int) < (N : Int) - ((m : Int) - (i' : Int))) = true := by simpa using hgrow
          obtain ⟨p, hp⟩ : ∃ p, ys.take i' = p := ⟨_, rfl⟩
          have hpl : p.length = i' := by rw [← hp, List.length_take, hyl'.out]; omega
          have hys : ys = p ++ q :: t := by rw [← hp, ← hdqh.out, List.take_append_drop]
          have hyes := hide (nx_some (N := N) (ys := ys) (l := p ++ sq (q + 1) (m - i')) hok'.out hxs'.out (by
            rw [hys, htq.out, show m - i' = (m - (i' + 1)) + 1 by omega]
            exact nxt_at (by omega) p))
          have hysh := hide hys
          have hplh := hide hpl
          clear hp hpl hys hql htl
          go_wp2_with fail
          refine (clone_any (HY.out.then_ B2.out) (Nat.le_refl _) (by omega) (by omega)).mono ?_
          rintro e w2 ⟨g, c2, rfl, hO, hmc, hc2, hb⟩
          have hsz2 := hb.size
          have B2' := B2
          replace B2 := hide (Below.then_ B2.out hb)
          replace hO := hide (show OwnI w2 wr.heap.size (.slice (some ⟨g, 0, none⟩) m c2) (zsI (p ++ sq (q + 1) (i' - i') ++ ys.drop i')) by
            rw [Nat.sub_self, sq, List.append_nil, hdqh.out, ← hysh.out]; exact hO)
          have hwr := hide (Nat.le_trans B2'.out.size (Nat.le_refl wr.heap.size))
          obtain ⟨wo, hwo⟩ : ∃ wo : Nat, wo = wr.heap.size := ⟨_, rfl⟩
          rw [← hwo] at hO hwr
          clear hwo hb hdr hris htq hca hadb hsz2 B2'
          go_wp2
          go_loopw [8] (fun jv wr => ∃ (J : Nat), i' ≤ J ∧ J ≤ m ∧ jv = .int .i64 J ∧ Hid (OwnI wr wo (.slice (some ⟨g, 0, none⟩) m c2) (zsI (p ++ sq (q + 1) (J - i') ++ ys.drop J))) ∧ Hid (Below w.heap.size w wr)) (fun jv _ => m - (intOf jv).toNat)
          case atStart => exact ⟨i', by omega, by omega, rfl, hO, B2⟩
          case round =>
            obtain ⟨J, hJ0, hJm, rfl, hO2, B3⟩ := hrel
            clear hO B2
            by_cases hJl : J < m
            · obtain ⟨y', t', hdJ, _, hdJ1⟩ := drop_at (ys := ys) (i := J) (by have := hyl'.out; omega)
              have hlen : (p ++ sq (q + 1) (J - i')).length = J := by rw [List.length_append, hplh.out, sq_length]; omega
              rw [hdJ] at hO2
              have hca2 := ((HY.out.then_ B3.out).cells (by omega))
              obtain ⟨ad', e1, hadb', hca3⟩ := hca2
              simp only [Option.some.injEq] at e1
              subst e1
              have hca := hca3 i' (by omega)
              rw [hliqh.out] at hca
              have hJ64 : (J : Int) < (m : Int) := by omega
              have hll : (zsI (p ++ sq (q + 1) (J - i') ++ y' :: t')).length = m := by
                rw [zs_length, List.length_append, hlen, ← hdJ, List.length_drop, hyl'.out]; omega
              have cO := hO2.out.cell (j := J) (by rw [hll]; exact hJl)
              have fO := hO2.out.frozen J
              have hgo := hide (hO2.out.lt (g := g) rfl)
              have hset := hide (show OwnI (wr.setCell ⟨g, J, none⟩ (.int .i64 ((q : Int) + 1 + (J : Int) - (i' : Int)))) wo (.slice (some ⟨g, 0, none⟩) m c2) (zsI (p ++ sq (q + 1) (J + 1 - i') ++ ys.drop (J + 1))) by
                have h := hO2.out.set (j := J) (z := (q : Int) + 1 + (J : Int) - (i' : Int)) ⟨by omega, by omega⟩
                rw [zs_set hlen] at h
                rw [show J + 1 - i' = (J - i') + 1 by omega, sq_snoc, hdJ1, ← List.append_assoc, List.append_assoc _ [_] t']
                have e2 : (q : Int) + 1 + (J : Int) - (i' : Int) = ((q + 1 + (J - i') : Nat) : Int) := by omega
                rw [e2, zs_mid] at h
                rw [e2]
                exact h)
              have hset2 := hide (show Below w.heap.size w (wr.setCell ⟨g, J, none⟩ (.int .i64 ((q : Int) + 1 + (J : Int) - (i' : Int)))) from B3.out.setCell (Nat.le_trans hwr.out hgo.out.1) _)
              clear hdJ hdJ1 hlen hca3 hll hadb'
              go_wp2
              go_roundw
              case rel => exact ⟨J + 1, by omega, by omega, by go_num, hset, hset2⟩
              case measure => simp [intOf]; omega
            · obtain rfl : J = m := by omega
              obtain ⟨A6, n6, c6, e6, hR6⟩ := hO2.out.rd (by rw [zs_length, List.length_append, List.length_append, hplh.out, sq_length, List.length_drop, hyl'.out]; omega)
              simp only [Value.slice.injEq] at e6
              obtain ⟨rfl, rfl, rfl⟩ := e6
              rw [← hyl'.out, List.drop_length, List.append_nil, hyl'.out] at hR6
              replace hR6 := hide hR6
              go_wp2
              go_ret2
              rw [hyes.out.1, hyes.out.2]
              exact ⟨_, _, _, rfl, hR6.out, B3.out⟩
        · have d1 : decide ((q : Int) < (N : Int) - ((m : Int) - (i' : Int))) = false := by simpa using hgrow
          have hd2 := hide (show ys.drop i' = sq (N - (m - i')) (m - i') by
            rw [hdqh.out, htq.out, show m - i' = (m - (i' + 1)) + 1 by omega, sq, show N - (m - (i' + 1)) = N - (m - (i' + 1) + 1) + 1 by omega, show N - (m - (i' + 1) + 1) = q by omega])
          clear hgrow hql htl hdr
          go_wp2
          go_roundw
          case rel => exact ⟨i', (i' : Int) - 1, by omega, by omega, by go_num, hd2, B2⟩
          case measure => simp [intOf]
end Go.Proofs.Ytdakfpapigieiaa
