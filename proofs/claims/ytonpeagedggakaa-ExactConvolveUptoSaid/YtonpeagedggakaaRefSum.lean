/-
  Ref1, Ref2.
-/
import Derived.Test.YtonpeagedggakaaNatMem
import Derived.Test.YtonpeagedggakaaNatBits
import Derived.Test.YtonpeagedggakaaNatSum
import Derived.Test.YtonpeagedggakaaNatMath
namespace Go.Proofs.Ytonpeagedggakaa
section
open Go.RowKit

/-- 'copy(out, a)', out a block of the call's own that is not longer. -/
theorem wpList_copy_cut {ops : Array Oper} {rest : List Oper} {o : Oper} {a : Act} {Q : Exit → Act → World → Prop} {w : World}
    (hg : o.guard = none) (d s : Operand) (ho : o.op = .call { callee := .builtin .copy, args := #[d, s], argTypes := #[33, 33] })
    (g k dCap : Nat) (A : Option Addr) (n c : Nat) (hd : a.eval d = .slice (some ⟨g, 0, none⟩) k dCap) (hs : a.eval s = .slice A n c)
    (os xs : List Nat) (Bd : Nat) (hown : Own w g os) (hlen : os.length = k) (hrd0 : Rd w Bd A n c xs) (hn : k ≤ n) (B : Nat) (w0 : World) (hb : Below B w0 w) (hBg : B ≤ g)
    (hK : ∀ w', Own w' g (xs.take k) → Below B w0 w' → wpList Try.prog ops Q rest (a.put o.dst (goInt k)) w') :
    wpList Try.prog ops Q (o :: rest) a w := by
  obtain ⟨cur, hcur, hc⟩ := hown.blk
  have hrd := hrd0.take hn
  have hxl := hrd.len
  have hsz : os.length ≤ cur.size := by
    rcases Nat.eq_zero_or_pos os.length with h | h
    · omega
    · have := (Array.getElem?_eq_some_iff.1 (hc (os.length - 1) (by omega))).1
      omega
  refine wpList_copy_splice hg d s _ _ ho 42 Try.underlying33 Try.sizeLimb (some ⟨g, 0, none⟩) A k dCap n c hd hs g 0 cur.toList 42 (by simpa using hcur)
    ((xs.take k).map fun x : Nat => Value.int .u32 (x : Int)) (by rw [List.length_map, hxl]; exact (Nat.min_eq_right hn).symm) (fun h0 => ?_) (by rw [List.length_map, hxl, Array.length_toList]; omega) (by intro v hv; obtain ⟨x, _, rfl⟩ := List.mem_map.1 hv; rfl) B w0 hb hBg ?_
  · obtain ⟨ad, rfl, _, hcell⟩ := hrd.cells (by rw [List.length_map, hxl] at h0; exact h0)
    refine ⟨rfl, ad, rfl, fun j v hv => ?_⟩
    have hj : j < k := by
      have := (List.getElem?_eq_some_iff.1 hv).1
      rw [List.length_map, hxl] at this
      exact this
    rw [hcell j hj]
    rw [List.getElem?_map, lm_get? (by omega)] at hv
    simpa using hv
  · intro w' hw' hb'
    have e : ((xs.take k).map fun x : Nat => Value.int .u32 (x : Int)).length = k := by rw [List.length_map, hxl]
    rw [e]
    refine hK w' ⟨hrd.limbs, _, hw'.out, fun j hj => ?_⟩ hb'
    rw [hxl] at hj
    simp only [List.getElem?_toArray, splice, List.take_zero, List.nil_append, List.getElem?_append, e]
    rw [if_pos hj, List.getElem?_map, lm_get? (by omega)]
    rfl

end

section
open Go.RowKit

theorem RetOwn.natFrom {w w1 : World} {m : Nat} {e : Ending} {w' : World} (h : RetOwn w1 m e w') (hb : Below w.heap.size w w1) : RetNat w m e w' :=
  ⟨_, _, h.1, h.2.1.rd0 (Nat.le_refl _) h.2.2.2 h.2.1.lt, hb.trans (h.2.2.1.mono hb.size)⟩

theorem radd_step {xs ys os : List Nat} {k cy : Nat} (hk : k < os.length) (hi : vl os k + pw k * cy = vl xs k + vl ys k) (s : Nat) (hs : s = lm xs k + lm ys k + cy) :
    vl (os.set k (s % 4294967296)) (k + 1) + pw (k + 1) * (s / 4294967296) = vl xs (k + 1) + vl ys (k + 1) := by
  have := add_step hk hi
  rw [show s = cy + lm xs k + lm ys k by omega]
  exact this

theorem grown_drewN {a w : World} {row : Option Nat} (h : a.grownBy w row) (k : Nat) : a.grownBy (w.drewN k) row := ⟨h.os, h.tape, h.output, h.size, h.block⟩

theorem rtimes_step {os os' ys : List Nat} {off f k q : Nat} (hl : os'.length = os.length) (hk : off + k < os.length) (h0 : ∀ j, j < off ∨ off + k ≤ j → lm os' j = lm os j)
    (h : vl (os'.drop off) k + pw k * q = vl (os.drop off) k + vl ys k * f) (s : Nat) (hs : s = lm os' (off + k) + f * lm ys k + q) :
    vl ((os'.set (off + k) (s % 4294967296)).drop off) (k + 1) + pw (k + 1) * (s / 4294967296) = vl (os.drop off) (k + 1) + vl ys (k + 1) * f :=
  times_step hl hk h0 h s (by rw [hs, Nat.mul_comm f]; omega)

theorem vl_small {ys : List Nat} {n : Nat} (h : val ys < pw n) : vl ys n = val ys := by
  by_cases hl : ys.length ≤ n
  · exact vl_ge hl
  · have e := val_split ys (k := n) (by omega)
    rcases Nat.eq_zero_or_pos (val (ys.drop n)) with h0 | h0
    · rw [h0] at e; omega
    · have := Nat.mul_le_mul_left (pw n) h0
      omega
theorem rsub_end {xs ys os : List Nat} {n b : Nat} (hos : os.length = n) (hxs : xs.length = n) (hO : Limbs os) (hX : Limbs xs) (hb : b ≤ 1) (hle : val ys ≤ val xs) (hval : vl os n + vl ys n = vl xs n + pw n * b) : val os = val xs - val ys := by
  have h1 := val_lt hX
  rw [hxs] at h1
  have h2 := val_lt hO
  rw [hos] at h2
  rw [vl_small (by omega : val ys < pw n), vl_ge (by omega : xs.length ≤ n), vl_ge (by omega : os.length ≤ n)] at hval
  obtain rfl | rfl : b = 0 ∨ b = 1 := by omega
  all_goals omega

end
end Go.Proofs.Ytonpeagedggakaa
