/-
  Subsets in lexicographic order: the rank, the subset at a rank, the next subset.
-/
import Derived.Test.YtdakfpapigieiaaComb2
namespace Go.Proofs.Ytdakfpapigieiaa

/-- a strictly rising list of numbers from f on, below n -/
def Ris (n : Nat) : Nat → List Nat → Prop
  | _, [] => True
  | f, x :: l => f ≤ x ∧ x < n ∧ Ris n (x + 1) l
/-- how many begin with one of f .. f + c - 1 and have k more behind it -/
def run (n k f : Nat) : Nat → Nat
  | 0 => 0
  | c + 1 => run n k f c + ch (n - 1 - (f + c)) k
/-- the rank among the lists from f on -/
def rk (n : Nat) : Nat → List Nat → Nat
  | _, [] => 0
  | f, x :: l => run n l.length f (x - f) + rk n (x + 1) l
theorem run_le {n k f : Nat} : ∀ {c : Nat}, f + c ≤ n → run n k f c + ch (n - (f + c)) (k + 1) = ch (n - f) (k + 1)
  | 0, _ => by simp [run]
  | c + 1, h => by
    have ih := run_le (n := n) (k := k) (f := f) (c := c) (by omega)
    rw [run, ← ih, show n - (f + c) = n - 1 - (f + c) + 1 by omega, ch_succ, show n - (f + (c + 1)) = n - 1 - (f + c) by omega]
    omega
theorem run_mono {n k f c d : Nat} (h : c ≤ d) : run n k f c ≤ run n k f d := by
  obtain ⟨e, rfl⟩ : ∃ e, d = c + e := ⟨d - c, by omega⟩
  clear h
  induction e with
  | zero => exact Nat.le_refl _
  | succ e ih => rw [← Nat.add_assoc, run]; omega
theorem Ris.length_le {n : Nat} : ∀ {f : Nat} {l : List Nat}, Ris n f l → f ≤ n → l.length ≤ n - f
  | _, [], _, _ => Nat.zero_le _
  | f, x :: l, ⟨h1, h2, h3⟩, _ => by
    have := Ris.length_le h3 (by omega)
    simp only [List.length_cons]
    omega
theorem rk_lt {n : Nat} : ∀ {f : Nat} {l : List Nat}, Ris n f l → f ≤ n → rk n f l < ch (n - f) l.length
  | f, [], _, _ => by simp only [rk, List.length_nil, ch_zero]; omega
  | f, x :: l, ⟨h1, h2, h3⟩, _ => by
    have ih := rk_lt h3 (by omega)
    have e := run_le (n := n) (k := l.length) (f := f) (c := x - f) (by omega)
    rw [show f + (x - f) = x by omega, show n - x = n - (x + 1) + 1 by omega, ch_succ] at e
    simp only [rk, List.length_cons]
    omega
/-- the subset of size k at rank r, of the numbers from f on; d: how many numbers are left (n - f) -/
def urk (n : Nat) : Nat → Nat → Nat → Nat → List Nat
  | 0, _, _, _ => []
  | _ + 1, _, 0, _ => []
  | d + 1, f, k + 1, r => if r < ch (n - 1 - f) k then f :: urk n d (f + 1) k r else urk n d (f + 1) (k + 1) (r - ch (n - 1 - f) k)
theorem urk_nil (n d f r : Nat) : urk n d f 0 r = [] := by cases d <;> rfl
/-- from f on is from f + 1 on, if f itself is not the first -/
theorem Ris.weaken {n : Nat} : ∀ {f g : Nat} {l : List Nat}, f ≤ g → Ris n g l → Ris n f l
  | _, _, [], _, _ => trivial
  | _, _, _ :: _, hg, ⟨h1, h2, h3⟩ => ⟨Nat.le_trans hg h1, h2, h3⟩
theorem run_shift {n k f : Nat} : ∀ c, run n k f (c + 1) = ch (n - 1 - f) k + run n k (f + 1) c
  | 0 => by simp [run]
  | c + 1 => by rw [run, run_shift c, run, show f + (c + 1) = f + 1 + c by omega]; omega
theorem urk_ok {n : Nat} : ∀ {d f k r : Nat}, d = n - f → f ≤ n → r < ch (n - f) k →
    Ris n f (urk n d f k r) ∧ (urk n d f k r).length = k ∧ rk n f (urk n d f k r) = r
  | d, f, 0, r, _, _, h => by
    rw [urk_nil]
    rw [ch_zero] at h
    exact ⟨trivial, rfl, by simp only [rk]; omega⟩
  | 0, f, k + 1, r, hd, hf, h => by
    rw [ch_lt (by omega)] at h
    omega
  | d + 1, f, k + 1, r, hd, hf, h => by
    rw [urk]
    by_cases hr : r < ch (n - 1 - f) k
    · rw [if_pos hr]
      obtain ⟨a, b, c⟩ := urk_ok (n := n) (d := d) (f := f + 1) (k := k) (r := r) (by omega) (by omega) (by rw [show n - (f + 1) = n - 1 - f by omega]; exact hr)
      refine ⟨⟨Nat.le_refl _, by omega, a⟩, by simp only [List.length_cons, b], ?_⟩
      simp only [rk, Nat.sub_self, run, c]
      omega
    · rw [if_neg hr]
      have e : ch (n - f) (k + 1) = ch (n - 1 - f) k + ch (n - 1 - f) (k + 1) := by rw [show n - f = n - 1 - f + 1 by omega, ch_succ]
      obtain ⟨a, b, c⟩ := urk_ok (n := n) (d := d) (f := f + 1) (k := k + 1) (r := r - ch (n - 1 - f) k) (by omega) (by omega) (by rw [show n - (f + 1) = n - 1 - f by omega]; omega)
      refine ⟨a.weaken (by omega), b, ?_⟩
      generalize urk n d (f + 1) (k + 1) (r - ch (n - 1 - f) k) = l at a b c
      match l, b with
      | x :: t, b =>
        obtain ⟨h1, h2, h3⟩ := a
        simp only [List.length_cons, Nat.add_right_cancel_iff] at b
        simp only [rk] at c ⊢
        rw [show x - f = (x - (f + 1)) + 1 by omega, run_shift, b]
        rw [b] at c
        omega
/-- of two lists of one length the one with the smaller number at the first difference has the smaller rank -/
theorem rk_order {n : Nat} : ∀ {f : Nat} {l m : List Nat}, Ris n f l → Ris n f m → l.length = m.length → f ≤ n → ∀ (p : List Nat) (x y : Nat) (s t : List Nat), l = p ++ x :: s → m = p ++ y :: t → x < y → rk n f l < rk n f m
  | f, l, m, hl, hm, hlen, hf, [], x, y, s, t, e1, e2, hxy => by
    simp only [List.nil_append] at e1 e2
    subst e1 e2
    obtain ⟨a1, a2, a3⟩ := hl
    obtain ⟨b1, b2, b3⟩ := hm
    simp only [List.length_cons, Nat.add_right_cancel_iff] at hlen
    have h1 := rk_lt a3 (by omega)
    have h2 : run n s.length f (x - f + 1) ≤ run n s.length f (y - f) := run_mono (by omega)
    rw [run, show f + (x - f) = x by omega] at h2
    simp only [rk]
    rw [show n - (x + 1) = n - 1 - x by omega] at h1
    rw [← hlen]
    omega
  | f, l, m, hl, hm, hlen, hf, z :: p, x, y, s, t, e1, e2, hxy => by
    simp only [List.cons_append] at e1 e2
    subst e1 e2
    obtain ⟨a1, a2, a3⟩ := hl
    obtain ⟨b1, b2, b3⟩ := hm
    simp only [List.length_cons, Nat.add_right_cancel_iff] at hlen
    have := rk_order a3 b3 hlen (by omega) p x y s t rfl rfl hxy
    simp only [rk]
    rw [hlen]
    omega
/-- the ranks tell the lists apart -/
theorem rk_inj {n : Nat} : ∀ {f : Nat} {l m : List Nat}, Ris n f l → Ris n f m → l.length = m.length → f ≤ n → rk n f l = rk n f m → l = m
  | _, [], [], _, _, _, _, _ => rfl
  | f, x :: l, y :: m, ⟨a1, a2, a3⟩, ⟨b1, b2, b3⟩, hlen, hf, he => by
    have hlen' : l.length = m.length := by simpa using hlen
    rcases Nat.lt_trichotomy x y with h | h | h
    · have := rk_order (n := n) (f := f) (l := x :: l) (m := y :: m) ⟨a1, a2, a3⟩ ⟨b1, b2, b3⟩ hlen hf [] x y l m rfl rfl h
      omega
    · subst h
      simp only [rk, hlen'] at he
      rw [rk_inj a3 b3 hlen' (by omega) (by omega)]
    · have := rk_order (n := n) (f := f) (l := y :: m) (m := x :: l) ⟨b1, b2, b3⟩ ⟨a1, a2, a3⟩ hlen.symm hf [] y x m l rfl rfl h
      omega
  | _, [], _ :: _, _, _, h, _, _ => by simp at h
  | _, _ :: _, [], _, _, h, _, _ => by simp at h
end Go.Proofs.Ytdakfpapigieiaa
