/-
  Natural numbers by their cells; nat's functions and its reference's by cells.
-/
import Derived.Test.YtdakfpapigieiaaNatLong
import Derived.Test.YtdakfpapigieiaaRefQuo
import Derived.Test.YtdakfpapigieiaaRefSum
import Derived.Test.YtdakfpapigieiaaNatSum
import Derived.Test.YtdakfpapigieiaaNatBits
import Derived.Test.YtdakfpapigieiaaIntA
namespace Go.Proofs.Ytdakfpapigieiaa
open Go.RowKit

structure Nc where
  A : Option Addr
  n : Nat
  c : Nat
/-- a million limbs at most -/
def Sm (m : Nat) : Prop := m < pw 1000000
/-- it reads as m, in any form -/
def Nv (w : World) (Bd : Nat) (x : Nc) (m : Nat) : Prop := ∃ xs, Rd w Bd x.A x.n x.c xs ∧ val xs = m ∧ x.n ≤ 1000000
/-- .. in normal form -/
def Nn (w : World) (Bd : Nat) (x : Nc) (m : Nat) : Prop := Rd w Bd x.A x.n x.c (dig m)
theorem Nn.nv {w : World} {Bd : Nat} {x : Nc} {m : Nat} (h : Nn w Bd x m) (s : Sm m) : Nv w Bd x m := ⟨dig m, h, val_dig m, by rw [← (show Rd w Bd x.A x.n x.c (dig m) from h).len]; exact (dig_len_le _ _).2 s⟩
theorem Nn.then_ {w w' : World} {x : Nc} {m : Nat} (h : Nn w w.heap.size x m) (hb : Below w.heap.size w w') : Nn w' w'.heap.size x m := Rd.then_ h hb
theorem Nv.then_ {w w' : World} {x : Nc} {m : Nat} (h : Nv w w.heap.size x m) (hb : Below w.heap.size w w') : Nv w' w'.heap.size x m := by
  obtain ⟨xs, h1, h2⟩ := h; exact ⟨xs, h1.then_ hb, h2⟩
theorem Nn.upto {w w' : World} {Bd : Nat} {x : Nc} {m : Nat} (h : Nn w Bd x m) (hb : Below w.heap.size w w') (hB : Bd ≤ w.heap.size) : Nn w' w'.heap.size x m := Rd.upto h hb hB
theorem Nv.upto {w w' : World} {Bd : Nat} {x : Nc} {m : Nat} (h : Nv w Bd x m) (hb : Below w.heap.size w w') (hB : Bd ≤ w.heap.size) : Nv w' w'.heap.size x m := by
  obtain ⟨xs, h1, h2⟩ := h; exact ⟨xs, h1.upto hb hB, h2⟩
theorem Nn.zero (w : World) (Bd : Nat) {c : Nat} (hc : c ≤ 9223372036854775807) (A : Option Addr) : Nn w Bd ⟨A, 0, c⟩ 0 := by
  show Rd w Bd A 0 c (dig 0)
  rw [dig_zero]
  exact Rd.empty _ _ _ hc
theorem Sm.mono {a b : Nat} (h : a ≤ b) (s : Sm b) : Sm a := Nat.lt_of_le_of_lt h s
/-- a number was handed back, in normal form; beside a bool -/
def RetC (w : World) (m : Nat) (e : Ending) (w' : World) : Prop := ∃ x : Nc, e = .returned (.slice x.A x.n x.c) ∧ Nn w' w'.heap.size x m ∧ Below w.heap.size w w'
def RetCB (w : World) (m : Nat) (ok : Bool) (e : Ending) (w' : World) : Prop := ∃ x : Nc, e = .returned (.tuple #[.slice x.A x.n x.c, .bool ok]) ∧ Nn w' w'.heap.size x m ∧ Below w.heap.size w w'
def RetCC (w : World) (a b : Nat) (e : Ending) (w' : World) : Prop := ∃ x y : Nc, e = .returned (.tuple #[.slice x.A x.n x.c, .slice y.A y.n y.c, .bool true]) ∧ Nn w' w'.heap.size x a ∧ Nn w' w'.heap.size y b ∧ Below w.heap.size w w'
theorem RetNat.c {w : World} {m : Nat} {e : Ending} {w' : World} (h : RetNat w m e w') : RetC w m e w' := by
  obtain ⟨A, c, h1, h2, h3⟩ := h; exact ⟨⟨A, _, c⟩, h1, h2, h3⟩
theorem RetNat2.c {w : World} {m : Nat} {ok : Bool} {e : Ending} {w' : World} (h : RetNat2 w m ok e w') : RetCB w m ok e w' := by
  obtain ⟨A, c, h1, h2, h3⟩ := h; exact ⟨⟨A, _, c⟩, h1, h2, h3⟩
theorem RetDM.c {w : World} {a b : Nat} {e : Ending} {w' : World} (h : RetDM w a b e w') : RetCC w (a / b) (a % b) e w' := by
  obtain ⟨A, c, B, d, h1, h2, h3, h4⟩ := h; exact ⟨⟨A, _, c⟩, ⟨B, _, d⟩, h1, h2, h3, h4⟩
theorem add_c {w : World} {Bd : Nat} {x y : Nc} {a b : Nat} (hx : Nv w Bd x a) (hy : Nv w Bd y b) (hB : Bd ≤ w.heap.size) {r : Nat} (hr : a + b = r) : Calls Try.prog 28 #[.slice x.A x.n x.c, .slice y.A y.n y.c] w (RetC w r) := by
  obtain ⟨xs, h1, h2, h3⟩ := hx
  obtain ⟨ys, k1, k2, k3⟩ := hy
  rw [← hr, ← h2, ← k2]
  exact (add_any w Bd _ _ _ _ _ _ xs ys h1 k1 hB (by omega) (by omega)).mono fun _ _ => RetNat.c
theorem mul_c {w : World} {Bd : Nat} {x y : Nc} {a b : Nat} (hx : Nv w Bd x a) (hy : Nv w Bd y b) (hB : Bd ≤ w.heap.size) {r : Nat} (hr : a * b = r) : Calls Try.prog 30 #[.slice x.A x.n x.c, .slice y.A y.n y.c] w (RetC w r) := by
  obtain ⟨xs, h1, h2, h3⟩ := hx
  obtain ⟨ys, k1, k2, k3⟩ := hy
  rw [← hr, ← h2, ← k2]
  exact (mul_any w Bd _ _ _ _ _ _ xs ys h1 k1 hB (by omega)).mono fun _ _ => RetNat.c
theorem sub_c {w : World} {Bd : Nat} {x y : Nc} {a b : Nat} (hx : Nv w Bd x a) (hy : Nv w Bd y b) (hB : Bd ≤ w.heap.size) {r : Nat} (hle : b ≤ a) (hr : a - b = r) : Calls Try.prog 42 #[.slice x.A x.n x.c, .slice y.A y.n y.c] w (RetCB w r true) := by
  obtain ⟨xs, h1, h2, h3⟩ := hx
  obtain ⟨ys, k1, k2, k3⟩ := hy
  rw [← hr, ← h2, ← k2]
  exact (sub_more w Bd _ _ _ _ _ _ xs ys h1 k1 hB (by rw [h2, k2]; exact hle)).mono fun _ _ => RetNat2.c
theorem divmod_c {w : World} {Bd : Nat} {x y : Nc} {a b : Nat} (hx : Nv w Bd x a) (hy : Nv w Bd y b) (hB : Bd ≤ w.heap.size) {q r : Nat} (h0 : b ≠ 0) (hq : a / b = q) (hr : a % b = r) : Calls Try.prog 54 #[.slice x.A x.n x.c, .slice y.A y.n y.c] w (RetCC w q r) := by
  obtain ⟨xs, h1, h2, h3⟩ := hx
  obtain ⟨ys, k1, k2, k3⟩ := hy
  rw [← hq, ← hr, ← h2, ← k2]
  exact (divmod_any w Bd _ _ _ _ _ _ xs ys h1 k1 hB (by omega) (by rw [k2]; exact h0)).mono fun _ _ => RetDM.c
theorem cmp_c {w : World} {Bd : Nat} {x y : Nc} {a b : Nat} (hx : Nv w Bd x a) (hy : Nv w Bd y b) {k : Int} (hr : cmpN a b = k) : Calls Try.prog 25 #[.slice x.A x.n x.c, .slice y.A y.n y.c] w (fun e w' => e = .returned (.int .i64 k) ∧ Below w.heap.size w w') := by
  obtain ⟨xs, h1, h2, h3⟩ := hx
  obtain ⟨ys, k1, k2, k3⟩ := hy
  exact (cmp_any w Bd _ _ _ _ _ _ xs ys h1 k1).mono fun e w' h => by
    obtain ⟨rfl, q, rfl⟩ := h
    exact ⟨by rw [h2, k2, hr], below_drewN (Below.refl _ _) q⟩
theorem norm_c {w : World} {Bd : Nat} {x : Nc} {a : Nat} (hx : Nv w Bd x a) (hB : Bd ≤ w.heap.size) : Calls Try.prog 27 #[.slice x.A x.n x.c] w (RetC w a) := by
  obtain ⟨xs, h1, h2, h3⟩ := hx
  rw [← h2]
  exact (norm_any w Bd _ _ _ xs h1 hB).mono fun _ _ h => RetNat.c (RetOwn.nat h)
theorem of_c {w : World} {m : Nat} (hm : m < 18446744073709551616) : Calls Try.prog 29 #[.int .u64 (m : Int)] w (RetC w m) := (of_any w m hm).mono fun _ _ => RetNat.c
theorem radd_c {w : World} {Bd : Nat} {x y : Nc} {a b : Nat} (hx : Nv w Bd x a) (hy : Nv w Bd y b) (hB : Bd ≤ w.heap.size) {r : Nat} (hr : a + b = r) : Calls Try.prog 40 #[.slice x.A x.n x.c, .slice y.A y.n y.c] w (RetC w r) := by
  obtain ⟨xs, h1, h2, h3⟩ := hx
  obtain ⟨ys, k1, k2, k3⟩ := hy
  rw [← hr, ← h2, ← k2]
  exact (radd_any w Bd _ _ _ _ _ _ xs ys h1 k1 hB (by omega) (by omega)).mono fun _ _ => RetNat.c
theorem rmul_c {w : World} {Bd : Nat} {x y : Nc} {a b : Nat} (hx : Nv w Bd x a) (hy : Nv w Bd y b) (hB : Bd ≤ w.heap.size) {r : Nat} (hr : a * b = r) : Calls Try.prog 52 #[.slice x.A x.n x.c, .slice y.A y.n y.c] w (RetC w r) := by
  obtain ⟨xs, h1, h2, h3⟩ := hx
  obtain ⟨ys, k1, k2, k3⟩ := hy
  rw [← hr, ← h2, ← k2]
  exact (rmul_any w Bd _ _ _ _ _ _ xs ys h1 k1 hB (by omega)).mono fun _ _ => RetNat.c
theorem rsub_c {w : World} {Bd : Nat} {x y : Nc} {a b : Nat} (hx : Nv w Bd x a) (hy : Nv w Bd y b) (hB : Bd ≤ w.heap.size) {r : Nat} (hle : b ≤ a) (hr : a - b = r) : Calls Try.prog 45 #[.slice x.A x.n x.c, .slice y.A y.n y.c] w (RetCB w r true) := by
  obtain ⟨xs, h1, h2, h3⟩ := hx
  obtain ⟨ys, k1, k2, k3⟩ := hy
  rw [← hr, ← h2, ← k2]
  exact (rsub_more w Bd _ _ _ _ _ _ xs ys h1 k1 hB (by rw [h2, k2]; exact hle)).mono fun _ _ => RetNat2.c
theorem rdivmod_c {w : World} {Bd : Nat} {x y : Nc} {a b : Nat} (hx : Nv w Bd x a) (hy : Nv w Bd y b) (hB : Bd ≤ w.heap.size) {q r : Nat} (h0 : b ≠ 0) (hq : a / b = q) (hr : a % b = r) : Calls Try.prog 36 #[.slice x.A x.n x.c, .slice y.A y.n y.c] w (RetCC w q r) := by
  obtain ⟨xs, h1, h2, h3⟩ := hx
  obtain ⟨ys, k1, k2, k3⟩ := hy
  rw [← hq, ← hr, ← h2, ← k2]
  exact (rdivmod_any w Bd _ _ _ _ _ _ xs ys h1 k1 hB (by omega) (by rw [k2]; exact h0)).mono fun _ _ => RetDM.c
theorem rcmp_c {w : World} {Bd : Nat} {x y : Nc} {a b : Nat} (hx : Nv w Bd x a) (hy : Nv w Bd y b) {k : Int} (hr : cmpN a b = k) : Calls Try.prog 43 #[.slice x.A x.n x.c, .slice y.A y.n y.c] w (fun e w' => e = .returned (.int .i64 k) ∧ Below w.heap.size w w') := by
  obtain ⟨xs, h1, h2, h3⟩ := hx
  obtain ⟨ys, k1, k2, k3⟩ := hy
  exact (rcmp_any w Bd _ _ _ _ _ _ xs ys h1 k1).mono fun e w' h => by
    obtain ⟨rfl, rfl⟩ := h
    exact ⟨by rw [h2, k2, hr], Below.refl _ _⟩
theorem rnorm_c {w : World} {Bd : Nat} {x : Nc} {a : Nat} (hx : Nv w Bd x a) (hB : Bd ≤ w.heap.size) : Calls Try.prog 44 #[.slice x.A x.n x.c] w (RetC w a) := by
  obtain ⟨xs, h1, h2, h3⟩ := hx
  rw [← h2]
  exact (rnorm_any w Bd _ _ _ xs h1 hB).mono fun _ _ h => RetNat.c (RetOwn.nat h)
theorem rof_c {w : World} {m : Nat} (hm : m < 18446744073709551616) : Calls Try.prog 53 #[.int .u64 (m : Int)] w (RetC w m) := (rof_any w m hm).mono fun _ _ => RetNat.c
theorem bits_c {w : World} {Bd : Nat} {x : Nc} {a : Nat} (hx : Nv w Bd x a) : Calls Try.prog 31 #[.slice x.A x.n x.c] w (fun e w' => e = .returned (.int .i64 (bl a : Int)) ∧ Below w.heap.size w w') := by
  obtain ⟨xs, h1, h2, h3⟩ := hx
  rw [← h2]
  exact (bits_any w Bd _ _ _ xs h1).mono fun e w' h => ⟨h.1, by rw [← h.2]; exact Below.refl _ _⟩
end Go.Proofs.Ytdakfpapigieiaa
