/-
  The reference's Next.
-/
import Derived.Test.YtdakfpapigieiaaCombJ
namespace Go.Proofs.Ytdakfpapigieiaa
open Go.RowKit

theorem li_sq : ∀ {a n t : Nat}, t < n → li (zsI (sq a n)) t = ((a + t : Nat) : Int)
  | _, 0, _, h => by omega
  | _, _ + 1, 0, _ => rfl
  | a, n + 1, t + 1, h => by
    rw [sq, zs_cons, li_cons_succ, li_sq (by omega), show a + 1 + t = a + (t + 1) by omega]
theorem li_app_lt {p s : List Nat} {J : Nat} (h : J < p.length) : li (zsI (p ++ s)) J = li (zsI p) J := by
  rw [zsI, List.map_append]
  exact li_append_lt (by simpa using h)
theorem li_app_ge {p s : List Nat} {J : Nat} (h : p.length ≤ J) : li (zsI (p ++ s)) J = li (zsI s) (J - p.length) := by
  simp [li, List.getD, zsI, List.getElem?_append, show ¬ J < p.length by omega]
set_option maxHeartbeats 8000000 in
set_option maxRecDepth 100000 in
theorem rnext_any {w : World} {Bd m c : Nat} {A : Option Addr} {xs : List Int} {n : Int} (hx : RdI w Bd A m c xs) (hB : Bd ≤ w.heap.size) : Calls Try.prog 21 #[.int .i64 n, .slice A m c] w (RetLB w (nxI n xs) (nxB n xs)) := by
  have hcap := hx.cap
  have hbig := hx.big
  have hcb := hx.cbig
  have HX := hide (hx.more hB)
  have B := hide (Below.refl w.heap.size w)
  have hl := hide hx.len
  clear hx hB
  obtain ⟨ok, hok⟩ : ∃ b, sbsB n xs = b := ⟨_, rfl⟩
  cases ok with
  | false =>
    rw [(nx_bad hok).1, (nx_bad hok).2]
    replace hok := hide hok
    go_enter Try.func21, Try.ntmps21
    go_wp2_with fail
    refine (rsubset_any (n := n) HX.out (Nat.le_refl _)).mono ?_
    rw [hok.out]
    rintro e w1 ⟨rfl, hb⟩
    replace B := hide (Below.then_ B.out hb)
    clear hb
    go_wp2
    go_ret2
    exact lb_nil rfl B.out
  | true =>
    obtain ⟨N, ys, rfl, hN, hxs, hris, _⟩ := sbs_yes hok
    have hyl : ys.length = m := by have := hl.out; rw [hxs, zs_length] at this; exact this
    have hmN : m ≤ N := by rw [← hyl]; exact hris.length_le (by omega)
    have HY := hide (show RdI w w.heap.size A m c (zsI ys) by rw [← hxs]; exact HX.out)
    have hok' := hide hok
    have hxs' := hide hxs
    have hyl' := hide hyl
    replace hris := hide hris
    clear hxs hyl hok
    go_enter Try.func21, Try.ntmps21
    go_wp2_with fail
    refine (rsubset_any (n := (N : Int)) HX.out (Nat.le_refl _)).mono ?_
    rw [hok'.out]
    rintro e w1 ⟨rfl, hb⟩
    replace B := hide (Below.then_ B.out hb)
    clear hb
    go_wp2
    go_loopw [7] (fun i wr => ∃ (k : Nat) (z : Int), k ≤ m ∧ z + 1 = (k : Int) ∧ i = .int .i64 z ∧ Hid (ys.drop k = sq (N - (m - k)) (m - k)) ∧ Hid (Below w.heap.size w wr)) (fun i _ => (intOf i + 1).toNat)
    case atStart => exact ⟨m, (m : Int) - 1, by omega, by omega, by go_num, hide (by rw [← hyl'.out, List.drop_length, Nat.sub_self]; rfl), B⟩
    case round =>
      obtain ⟨k, z, hk, hz, rfl, hdr, B2⟩ := hrel
      clear B
      by_cases hk0 : k = 0
      · subst hk0
        obtain rfl : z = -1 := by omega
        have hno := hide (nx_none (N := N) (ys := ys) hok'.out hxs'.out (by
          have h := hdr.out
          rw [List.drop_zero, Nat.sub_zero] at h
          rw [h]
          exact nxt_last hmN))
        go_wp2
        go_ret2
        rw [hno.out.1, hno.out.2]
        exact lb_nil rfl B2.out
      · obtain ⟨i', rfl⟩ : ∃ j, k = j + 1 := ⟨k - 1, by omega⟩
        obtain rfl : z = (i' : Int) := by omega
        obtain ⟨q, t, hdq, hliq, hdt⟩ := drop_at (ys := ys) (i := i') (by have := hyl'.out; omega)
        obtain ⟨ad, rfl, hadb, hca⟩ := (HY.out.then_ B2.out).at_ (k := i') (by omega)
        rw [hliq] at hca
        have hi64 : (i' : Int) < (m : Int) := by omega
        have d0 : decide ((0 : Int) ≤ (i' : Int)) = true := by simp
        have htl : t.length = m - 1 - i' := by
          have h1 : (ys.drop i').length = ys.length - i' := List.length_drop
          rw [hdq, List.length_cons, hyl'.out] at h1
          omega
        obtain ⟨f', hrd⟩ := hris.out.drop (i := i')
        rw [hdq] at hrd
        have hqN : q < N := hrd.2.1
        have hql : t.length ≤ N - (q + 1) := hrd.2.2.length_le (by omega)
        have htq := hide (show t = sq (N - (m - (i' + 1))) (m - (i' + 1)) by rw [← hdt]; exact hdr.out)
        have hdqh := hide hdq
        have hliqh := hide hliq
        clear hdt hdq hliq hrd hz hk0
        by_cases hgrow : (q : Int) = (N : Int) - (m : Int) + (i' : Int)
        · have d1 : ((q : Int) == (N : Int) - (m : Int) + (i' : Int)) = true := by simpa using hgrow
          have hd2 := hide (show ys.drop i' = sq (N - (m - i')) (m - i') by
            rw [hdqh.out, htq.out, show m - i' = (m - (i' + 1)) + 1 by omega, sq, show N - (m - (i' + 1)) = N - (m - (i' + 1) + 1) + 1 by omega, show N - (m - (i' + 1) + 1) = q by omega])
          clear hgrow hql htl hdr
          go_wp2
          go_roundw
          case rel => exact ⟨i', (i' : Int) - 1, by omega, by omega, by go_num, hd2, B2⟩
          case measure => simp [intOf]
        · have d1 : ((q : Int) == (N : Int) - (m : Int) + (i' : Int)) = false := by simpa using hgrow
          have d2 : decide ((i' : Int) < 0) = false := by simp
          obtain ⟨p, hp⟩ : ∃ p, ys.take i' = p := ⟨_, rfl⟩
          have hpl : p.length = i' := by rw [← hp, List.length_take, hyl'.out]; omega
          have hys : ys = p ++ q :: t := by rw [← hp, ← hdqh.out, List.take_append_drop]
          have hyes := hide (nx_some (N := N) (ys := ys) (l := p ++ sq (q + 1) (m - i')) hok'.out hxs'.out (by
            rw [hys, htq.out, show m - i' = (m - (i' + 1)) + 1 by omega]
            exact nxt_at (by omega) p))
          obtain ⟨LI, hLI⟩ : ∃ LI, LI = zsI (p ++ sq (q + 1) (m - i')) := ⟨_, rfl⟩
          have hLl := hide (show LI.length = m by rw [hLI, zs_length, List.length_append, hpl, sq_length]; omega)
          have hlow := hide (show ∀ J, J < i' → li LI J = li (zsI ys) J from fun J hJ => by rw [hLI, li_app_lt (by omega), hys, li_app_lt (by omega)])
          have hhigh := hide (show ∀ J, i' ≤ J → J < m → li LI J = (q : Int) + 1 + (J : Int) - (i' : Int) from fun J hJ hJm => by rw [hLI, li_app_ge (by omega), li_sq (by omega)]; omega)
          rw [← hLI] at hyes
          have hwf := hide HY.out.wf
          clear hp hpl hys hql htl hLI hdr htq hris hgrow
          go_wp2
          clear hca hadb
          go_loopw [8, 9] (fun v i wr => ∃ (J c' : Nat) (A' : Option Addr), J ≤ m ∧ J ≤ c' ∧ c' ≤ 9223372036854775807 ∧ v = .slice A' J c' ∧ i = .int .i64 J ∧ Hid (OwnI wr w.heap.size (.slice A' J c') (LI.take J)) ∧ Hid (Below w.heap.size w wr)) (fun _ i _ => m - (intOf i).toNat)
          case atStart => exact ⟨0, 0, none, by omega, by omega, by omega, rfl, rfl, hide (OwnI.nil _ _), B2⟩
          case round =>
            obtain ⟨J, c', A', hJm, hJc, hcc, rfl, rfl, hOw, B3⟩ := hrel
            clear B2
            by_cases hJl : J < m
            · obtain ⟨ad', e1, hadb', hca3⟩ := (HY.out.then_ B3.out).cells (by omega)
              simp only [Option.some.injEq] at e1
              subst e1
              have hJ64 : (J : Int) < (m : Int) := by omega
              have hlt := hide (show (LI.take J).length = J by rw [List.length_take, hLl.out]; omega)
              by_cases hJi : J < i'
              · have d3 : decide ((J : Int) < (i' : Int)) = true := by simp; omega
                have d4 : decide (J < i') = true := by simp; omega
                have hcj := hca3 J hJl
                obtain ⟨y, hy⟩ : ∃ y, li (zsI ys) J = y := ⟨_, rfl⟩
                rw [hy] at hcj
                have hyh := hide hy
                have hsn := hide (show LI.take J ++ [y] = LI.take (J + 1) by rw [take_one (by rw [hLl.out]; exact hJl), hlow.out J hJi, hy])
                clear hy hca3
                go_wp2_with (at_builtin; refine wpList_append_int rfl (.tmp 44) (.tmp 49) rfl w.heap.size _ _ rfl (hOw.out.alloc _) ⟨wr.heap.size, 0, none⟩ 1 (y) rfl (by simp) (by rw [← hyh.out]; exact hwf.out J) (by rw [hlt.out]; omega) (by have := B3.out.size; simp; omega) ?_; intro v' w6 hO5 hg5)
                replace B3 := hide (hOw.out.pushed hg5 B3.out B3.out.size)
                rw [hsn.out] at hO5
                obtain ⟨A5, c5, rfl, hl5, hc5⟩ := hO5.form
                have hlen5 : (LI.take (J + 1)).length = J + 1 := by rw [List.length_take, hLl.out]; omega
                rw [hlen5] at hO5 hl5
                rw [hlen5]
                replace hO5 := hide hO5
                clear hlen5 hg5 hOw
                go_wp2
                go_roundw
                case rel => exact ⟨J + 1, c5, A5, by omega, hl5, hc5, by go_num, by go_num, hO5, B3⟩
                case measure => simp [intOf]; omega
              · have d3 : decide ((J : Int) < (i' : Int)) = false := by simp; omega
                have d4 : decide (J < i') = false := by simp; omega
                have hci := hca3 i' (by omega)
                rw [hliqh.out] at hci
                have hsn := hide (show LI.take J ++ [(q : Int) + 1 + (J : Int) - (i' : Int)] = LI.take (J + 1) by rw [take_one (by rw [hLl.out]; exact hJl), hhigh.out J (by omega) hJl])
                clear hca3
                go_wp2_with (at_builtin; refine wpList_append_int rfl (.tmp 51) (.tmp 61) rfl w.heap.size _ _ rfl (hOw.out.alloc _) ⟨wr.heap.size, 0, none⟩ 1 ((q : Int) + 1 + (J : Int) - (i' : Int)) rfl (by simp) (⟨by omega, by omega⟩) (by rw [hlt.out]; omega) (by have := B3.out.size; simp; omega) ?_; intro v' w6 hO5 hg5)
                replace B3 := hide (hOw.out.pushed hg5 B3.out B3.out.size)
                rw [hsn.out] at hO5
                obtain ⟨A5, c5, rfl, hl5, hc5⟩ := hO5.form
                have hlen5 : (LI.take (J + 1)).length = J + 1 := by rw [List.length_take, hLl.out]; omega
                rw [hlen5] at hO5 hl5
                rw [hlen5]
                replace hO5 := hide hO5
                clear hlen5 hg5 hOw
                go_wp2
                go_roundw
                case rel => exact ⟨J + 1, c5, A5, by omega, hl5, hc5, by go_num, by go_num, hO5, B3⟩
                case measure => simp [intOf]; omega
            · obtain rfl : J = m := by omega
              obtain ⟨A6, n6, c6, e6, hR6⟩ := hOw.out.rd (by rw [List.length_take, hLl.out]; omega)
              simp only [Value.slice.injEq] at e6
              obtain ⟨rfl, rfl, rfl⟩ := e6
              rw [List.take_of_length_le (by rw [hLl.out]; omega)] at hR6
              replace hR6 := hide hR6
              go_wp2
              go_ret2
              rw [hyes.out.1, hyes.out.2]
              exact ⟨_, _, _, rfl, hR6.out, B3.out⟩
end Go.Proofs.Ytdakfpapigieiaa
