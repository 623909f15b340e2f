/-
  Parse.
-/
import Derived.Test.YtjbbapibpcgnhaaParse
namespace Go.Proofs.Ytjbbapibpcgnhaa
open Go.RowKit

/-- a number that may have been appended to, as a slice that is read -/
theorem rd_of_own {w : World} {B : Nat} {v : Value} {os : List Nat} (h : w.ownsRow B 51 1 v os.length (lims os)) (hL : Limbs os) (hn : os.length ≤ 70368744177664) :
    ∃ A c, v = .slice A os.length c ∧ Rd w w.heap.size A os.length c os := by
  rcases h.2 with ⟨rfl, h0⟩ | ⟨g, cap, cur, rfl, hb, hh, hnc, hcm, hcs, ht⟩
  · refine ⟨none, 0, by rw [h0], ?_⟩
    have : os = [] := List.eq_nil_of_length_eq_zero h0
    subst this
    exact Rd.empty _ _ _ (by omega)
  · refine ⟨_, cap, rfl, rfl, hL, hnc, hn, hcm, fun _ => ⟨_, rfl, (Array.getElem?_eq_some_iff.1 hh).1, fun j hj => ?_⟩⟩
    rw [Addr.add_lit, Nat.zero_add, World.ownsRow.cellAt h j (by omega), lims_get hj]

/-- 'append(number, carry)' -/
theorem wpList_append_limb {ops : Array Oper} {rest : List Oper} {o : Oper} {a : Act} {Q : Exit → Act → World → Prop} {w0 w2 : World} (hgd : o.guard = none) (s x : Operand)
    (ho : o.op = .call { callee := .builtin .append, args := #[s, x], argTypes := #[23, 23] })
    (B : Nat) (v : Value) (os : List Nat) (q : Nat) (hs : a.eval s = v) (hx : a.eval x = .slice (some ⟨w2.heap.size, 0, none⟩) 1 1)
    (hown : w2.ownsRow B 51 1 v os.length (lims os)) (hn : os.length ≤ 1000000) (hB : Below B w0 w2) (hBs : B ≤ w2.heap.size)
    (h : ∀ v' w', w'.ownsRow B 51 1 v' (os ++ [q]).length (lims (os ++ [q])) → Below B w0 w' → wpList Try.prog ops Q rest (a.put o.dst v') w') :
    wpList Try.prog ops Q (o :: rest) a (w2.alloc (.cells #[.int .u32 (q : Int)] 51)) := by
  obtain ⟨i0, hi, hz0, hz1, hz2⟩ := info_parts Try.infoLimb
  have hlt := hown.lt
  refine wpList_append_own _ hgd s x 23 ho B 51 i0 (.int .u32 0) 1 4 Try.underlying23 hi hz0 hz1 hz2 rfl (by omega) v os.length (lims os) hs (hown.alloc _)
    ⟨w2.heap.size, 0, none⟩ 1 1 [.int .u32 (q : Int)] hx rfl ?_ ?_ (by simp only [maxLen]; omega) (by omega) (by simp; omega) ?_
  · intro j u hj
    match j, hj with
    | 0, hj =>
      simp at hj; subst hj
      rw [add_zero_, cell_of_row _ w2.heap.size 0 _ _ (0, 0) (heap_alloc_new w2 _)]
      rfl
  · intro u hu; simp at hu; subst hu; rfl
  · intro v' w' hown' hgrow _
    rw [lims_snoc] at hown'
    refine h v' w' (by rw [List.length_append]; exact hown') ?_
    exact (hB.alloc hBs _).grown hgrow (by simp; omega) (fun k hk => (hlt k hk).1)

/-- where the reading stands: the digits up to e - 9 are read -/
def ParRel (w : World) (s : ByteArray) (e : Nat) (v : Value) (wr : World) : Prop :=
  wr.ownsRow w.heap.size 51 1 v (dig (dvp s (e - 9))).length (lims (dig (dvp s (e - 9)))) ∧ (dvp s (e - 9) = 0 → v = .slice none 0 0) ∧ (dig (dvp s (e - 9))).length ≤ e ∧ Below w.heap.size w wr

/-- the value after the next piece -/
theorem dvp_next {s : ByteArray} {e : Nat} (h1 : 1 ≤ e) (he : e ≤ s.size) : dvp s e = dvp s (e - 9) * 1000000000 + dvp (s.extract (e - 9) e) (s.extract (e - 9) e).size := by
  have h := dvp_ext (s := s) (a := e - 9) (b := e) (k := e - (e - 9)) he (by omega)
  rw [show e - 9 + (e - (e - 9)) = e by omega] at h
  rw [size_ext he, h]
  by_cases h9 : e ≤ 9
  · have : dvp s (e - 9) = 0 := by rw [show e - 9 = 0 by omega]; rfl
    rw [this]; simp
  · rw [show e - (e - 9) = 9 by omega]
theorem piece_ok {s : ByteArray} {e : Nat} (he : e ≤ s.size) (hd : ∀ k, k < s.size → 48 ≤ bt s k ∧ bt s k ≤ 57) :
    (s.extract (e - 9) e).size ≤ 9 ∧ (∀ k, k < (s.extract (e - 9) e).size → 48 ≤ bt (s.extract (e - 9) e) k ∧ bt (s.extract (e - 9) e) k ≤ 57) ∧ dvp (s.extract (e - 9) e) (s.extract (e - 9) e).size < 1000000000 := by
  have h1 := size_ext (s := s) (a := e - 9) he
  have h2 : ∀ k, k < (s.extract (e - 9) e).size → 48 ≤ bt (s.extract (e - 9) e) k ∧ bt (s.extract (e - 9) e) k ≤ 57 := by
    intro k hk
    rw [h1] at hk
    rw [bt_ext he hk]
    exact hd _ (by omega)
  refine ⟨by omega, h2, ?_⟩
  have h3 := dvp_lt h2
  have h4 : 10 ^ (s.extract (e - 9) e).size ≤ 10 ^ 9 := Nat.pow_le_pow_right (by omega) (by omega)
  omega

def RetParse (w : World) (m : Nat) (e : Ending) (w' : World) : Prop :=
  ∃ A c, e = .returned (.tuple #[.slice A (dig m).length c, .int .i64 0]) ∧ Rd w' w'.heap.size A (dig m).length c (dig m) ∧ Below w.heap.size w w'
/-- an error, and no number -/
def RetErr (w : World) (k : Int) (e : Ending) (w' : World) : Prop := e = .returned (.tuple #[.slice none 0 0, .int .i64 k]) ∧ w = w'

set_option maxHeartbeats 1000000 in
theorem parse_syntax (w : World) (s : ByteArray) (hs : s.size ≤ 9223372036854775807) (h : ¬ IsNum s) :
    Calls Try.prog 59 #[.string s] w (RetErr w 2) := by
  have H := hide h
  clear h
  go_enter Try.func59, Try.ntmps59
  go_wp2_with (go_at_call 77; ((with_reducible refine (notation_false _ s hs H.out).mono ?_); rintro e w' ⟨rfl, rfl⟩))
  go_ret2
  exact ⟨rfl, rfl⟩

set_option maxHeartbeats 1000000 in
theorem parse_long (w : World) (s : ByteArray) (hs : s.size ≤ 9223372036854775807) (h : IsNum s) (hl : 400 < s.size) :
    Calls Try.prog 59 #[.string s] w (RetErr w 5) := by
  have H := hide h
  clear h
  go_enter Try.func59, Try.ntmps59
  go_wp2_with (go_at_call 77; ((with_reducible refine (notation_true _ s hs H.out).mono ?_); rintro e w' ⟨rfl, rfl⟩))
  go_ret2
  exact ⟨rfl, rfl⟩

theorem chunk_at (w : World) {s : ByteArray} {e ch : Nat} (hch : ch = dvp (s.extract (e - 9) e) (s.extract (e - 9) e).size) (h1 : (s.extract (e - 9) e).size ≤ 9)
    (h2 : ∀ k, k < (s.extract (e - 9) e).size → 48 ≤ bt (s.extract (e - 9) e) k ∧ bt (s.extract (e - 9) e) k ≤ 57) (lo : Nat) (hlo : lo = e - 9) :
    Calls Try.prog 79 #[.string (s.extract lo e)] w fun e' w' => e' = .returned (.int .u32 (ch : Int)) ∧ w = w' := by
  subst hlo hch
  exact chunk_any w _ h1 h2

set_option maxHeartbeats 2000000 in
theorem parse_ok (w : World) (s : ByteArray) (h : IsNum s) (hl : s.size ≤ 400) :
    Calls Try.prog 59 #[.string s] w (RetParse w (dvp s s.size)) := by
  have hp := h.2.1
  have H := hide h
  clear h
  go_enter Try.func59, Try.ntmps59
  go_wp2_with (go_at_call 77; ((with_reducible refine (notation_true _ s (by omega) H.out).mono ?_); rintro e w' ⟨rfl, rfl⟩))
  go_loopw [4, 5] (fun v i wr => ∃ e : Nat, 1 ≤ e ∧ e ≤ s.size + 9 ∧ (s.size + 9 - e) % 9 = 0 ∧ i = .int .i64 (e : Int) ∧ ParRel w s e v wr) (fun _ i _ => s.size + 9 - (intOf i).toNat)
  case atStart =>
    refine ⟨(s.size - 1) % 9 + 1, by omega, by omega, by omega, by go_num, ?_⟩
    rw [ParRel, show (s.size - 1) % 9 + 1 - 9 = 0 by omega, show dvp s 0 = 0 from rfl, dig_zero]
    exact ⟨World.ownsRow_nil _ _ _ _, fun _ => rfl, by simp, Below.refl _ _⟩
  case round =>
    obtain ⟨e, he1, he2, he3, rfl, hown, hnil, hle, hBl⟩ := hrel
    by_cases hlt : e ≤ s.size
    · obtain ⟨hpc1, hpc2, hpc3⟩ := piece_ok hlt (s := s) H.out.1
      have hnext := dvp_next he1 hlt
      have hsz : s.size ≤ 400 := hl
      obtain ⟨ch, hch⟩ : ∃ ch, ch = dvp (s.extract (e - 9) e) (s.extract (e - 9) e).size := ⟨_, rfl⟩
      rw [← hch] at hnext hpc3
      replace hch := hide hch
      replace hpc2 := hide hpc2
      have hBs := hBl.size
      by_cases h0 : dvp s (e - 9) = 0
      · obtain rfl := hnil h0
        have hv : Hid (dvp s e = ch) := hide (by rw [hnext, h0]; omega)
        rw [h0, dig_zero] at hown
        have hE : Hid (e + 9 - 9 = e) := hide (by omega)
        clear hnext h0 hnil hle
        by_cases hc0 : ch = 0
        · have hcb : ((ch : Int) != 0) = false := by simp; exact hc0
          have hc1 := hide hc0
          have hB2 := hide hBl
          clear hBl hown hc0
          go_wp2_with fail
          all_goals
            refine (chunk_at _ hch.out hpc1 hpc2.out _ (by omega)).mono ?_
            rintro e' w' ⟨rfl, rfl⟩
            go_wp2_with (go_at_call 78; ((with_reducible refine (timesPlus_nil _ none 0 ch 1000000000 (by omega)).mono ?_); rintro e' w' ⟨rfl, rfl⟩))
            go_roundw
            case rel =>
              refine ⟨e + 9, by omega, by omega, by omega, by go_num, ?_⟩
              rw [ParRel, hE.out, hv.out, hc1.out, dig_zero]
              exact ⟨World.ownsRow_nil _ _ _ _, fun _ => rfl, by simp, hB2.out⟩
            case measure => simp [intOf]; omega
        · have hcb : ((ch : Int) != 0) = true := by simp; exact hc0
          have hc1 := hide hc0
          have hl1 : Hid (dig ch = [ch]) := hide (by rw [dig_pos hc0, show ch / 4294967296 = 0 by omega, dig_zero, Nat.mod_eq_of_lt (by omega)])
          clear hc0
          replace hown := hide hown
          replace hBl := hide hBl
          go_wp2_with fail
          all_goals
            refine (chunk_at _ hch.out hpc1 hpc2.out _ (by omega)).mono ?_
            rintro e' w' ⟨rfl, rfl⟩
            go_wp2_with (first
              | (go_at_call 78; ((with_reducible refine (timesPlus_nil _ none 0 ch 1000000000 (by omega)).mono ?_); rintro e' w' ⟨rfl, rfl⟩))
              | (at_builtin; refine wpList_append_limb rfl (.tmp 35) (.tmp 37) rfl w.heap.size _ [] ch rfl rfl hown.out (by simp) hBl.out hBs ?_; intro v' w1 hown1 hB1))
            go_roundw
            case rel =>
              refine ⟨e + 9, by omega, by omega, by omega, by go_num, ?_⟩
              rw [ParRel, hE.out, hv.out, hl1.out]
              exact ⟨hown1, fun h => absurd h hc1.out, by simp, hB1⟩
            case measure => simp [intOf]; omega
      · obtain ⟨V, hV⟩ : ∃ V, V = dvp s (e - 9) := ⟨_, rfl⟩
        rw [← hV] at h0 hown hle hnext
        have hl0 : (dig V).length ≠ 0 := fun h => h0 (dig_len_zero.1 h)
        obtain ⟨g, cap, hvv, hR⟩ : ∃ g cap, u4 = .slice (some ⟨g, 0, none⟩) (dig V).length cap ∧ Row wr w.heap.size g (dig V).length cap (dig V) := by
          rcases hown.2 with ⟨_, hz⟩ | ⟨g, cap, cur, hv, _⟩
          · exact absurd hz hl0
          · exact ⟨g, cap, hv, by rw [Row, ← hv]; exact hown⟩
        subst hvv
        have hE : Hid (e + 9 - 9 = e) := hide (by omega)
        have hgB : w.heap.size ≤ g := (hown.lt g rfl).1
        replace hnext := hide hnext
        replace hown := hide hown
        replace hBl := hide hBl
        replace hR := hide hR
        have hV0 := hide h0
        have hlen : (dig V).length ≤ 409 := by omega
        have hbig : (dig V).length ≤ 70368744177664 := by omega
        have hle : (dig V).length ≤ e := hle
        have hHV : V ≤ V * 1000000000 + ch := by omega
        clear hnil hV h0 hl0
        go_wp2_with fail
        all_goals
          refine (chunk_at _ hch.out hpc1 hpc2.out _ (by omega)).mono ?_
          rintro e' w' ⟨rfl, rfl⟩
          go_wp2_with fail
          refine (timesPlus_any _ w.heap.size g (dig V).length cap (dig V) 1000000000 ch hR.out (Limbs_dig V) rfl hbig (by omega) (by omega) _ rfl).mono ?_
          rintro e' w2 ⟨os', q, rfl, hq, hlo, hLo, hval, hR2, hgr⟩
          have hT := dig_times hLo hlo hq (by rw [hval, vl_ge (Nat.le_refl _), val_dig]) hHV
          rw [← hnext.out] at hT
          have hB2 := hide (hBl.out.grown hgr hBs (by simp; exact hgB))
          have hBs2 : w.heap.size ≤ w2.heap.size := hB2.out.size
          replace hT := hide hT
          replace hR2 := hide hR2
          have hlo2 := hide hlo
          have hos : os'.length ≤ 409 := by omega
          have hos2 : os'.length ≤ e := by omega
          clear hval hgr hlo
          have hvne : Hid (dvp s e ≠ 0) := hide (by rw [hnext.out]; have := hV0.out; omega)
          by_cases hq0 : q = 0
          · have hqb : ((q : Int) != 0) = false := by simp; exact hq0
            have hd := hide (hT.out.1 hq0)
            clear hq0
            go_wp2
            go_roundw
            case rel =>
              refine ⟨e + 9, by omega, by omega, by omega, by go_num, ?_⟩
              rw [ParRel, hE.out, ← hd.out, hlo2.out]
              refine ⟨?_, fun h => absurd h hvne.out, by omega, hB2.out⟩
              exact hR2.out
            case measure => simp [intOf]; omega
          · have hqb : ((q : Int) != 0) = true := by simp; exact hq0
            have hd := hide (hT.out.2 hq0)
            clear hq0
            have hown2 : w2.ownsRow w.heap.size 51 1 (.slice (some ⟨g, 0, none⟩) (dig V).length cap) os'.length (lims os') := by rw [hlo2.out]; exact hR2.out
            replace hown2 := hide hown2
            go_wp2_with (at_builtin; refine wpList_append_limb rfl (.tmp 35) (.tmp 37) rfl w.heap.size _ os' q rfl rfl hown2.out (by omega) hB2.out hBs2 ?_; intro v' w3 hown3 hB3)
            go_roundw
            case rel =>
              refine ⟨e + 9, by omega, by omega, by omega, by go_num, ?_⟩
              rw [ParRel, hE.out, ← hd.out]
              exact ⟨hown3, fun h => absurd h hvne.out, by simp; omega, hB3⟩
            case measure => simp [intOf]; omega
    · have he9 : e = s.size + 9 := by omega
      have E : Hid (e - 9 = s.size) := hide (by omega)
      clear he9
      rw [E.out] at hown hle
      obtain ⟨A, c, rfl, hR⟩ := rd_of_own hown (Limbs_dig _) (by omega)
      replace hown := hide hown
      replace hBl := hide hBl
      replace hR := hide hR
      clear hnil
      go_wp2
      go_ret2
      exact ⟨A, c, rfl, hR.out, hBl.out⟩

end Go.Proofs.Ytjbbapibpcgnhaa
