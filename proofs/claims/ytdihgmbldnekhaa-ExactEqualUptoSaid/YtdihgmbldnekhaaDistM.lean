/-
  Comb1, Comb2, Comb3, Comb4, Dist1, Dist2.
-/
import Derived.Test.YtdihgmbldnekhaaNatMath
namespace Go.Proofs.Ytdihgmbldnekhaa
section
def fac : Nat → Nat
  | 0 => 1
  | n + 1 => (n + 1) * fac n
/-- the product of lo .. lo + k - 1 -/
def prd (lo : Nat) : Nat → Nat
  | 0 => 1
  | k + 1 => prd lo k * (lo + k)
/-- binomial coefficients, by Pascal's rule -/
def ch : Nat → Nat → Nat
  | _, 0 => 1
  | 0, _ + 1 => 0
  | n + 1, k + 1 => ch n k + ch n (k + 1)
theorem ch_zero (n : Nat) : ch n 0 = 1 := by cases n <;> rfl
theorem ch_succ (n k : Nat) : ch (n + 1) (k + 1) = ch n k + ch n (k + 1) := rfl
theorem ch_lt : ∀ {n k : Nat}, n < k → ch n k = 0
  | 0, 0, h => by omega
  | 0, _ + 1, _ => rfl
  | _ + 1, 0, h => by omega
  | n + 1, k + 1, h => by rw [ch_succ, ch_lt (by omega : n < k), ch_lt (by omega : n < k + 1)]
theorem ch_self : ∀ n, ch n n = 1
  | 0 => rfl
  | n + 1 => by rw [ch_succ, ch_self n, ch_lt (by omega)]
theorem ch_pos : ∀ {n k : Nat}, k ≤ n → 0 < ch n k
  | _, 0, _ => by rw [ch_zero]; omega
  | 0, k + 1, h => by omega
  | n + 1, k + 1, h => by rw [ch_succ]; have := ch_pos (n := n) (k := k) (by omega); omega
theorem fac_pos : ∀ n, 0 < fac n
  | 0 => by decide
  | n + 1 => Nat.mul_pos (by omega) (fac_pos n)
theorem fac_succ (n : Nat) : fac (n + 1) = (n + 1) * fac n := rfl
theorem ch_fac : ∀ {n k : Nat}, k ≤ n → ch n k * (fac k * fac (n - k)) = fac n
  | n, 0, _ => by rw [ch_zero]; simp [fac]
  | 0, k + 1, h => by omega
  | n + 1, k + 1, h => by
    rw [ch_succ, Nat.add_mul]
    have h1 := ch_fac (n := n) (k := k) (by omega)
    have e1 : ch n k * (fac (k + 1) * fac (n + 1 - (k + 1))) = (k + 1) * fac n := by
      rw [fac_succ, show n + 1 - (k + 1) = n - k by omega, ← h1]
      grind
    rw [e1]
    by_cases hk : k + 1 ≤ n
    · have h2 := ch_fac (n := n) (k := k + 1) hk
      have e2 : ch n (k + 1) * (fac (k + 1) * fac (n + 1 - (k + 1))) = (n - k) * fac n := by
        rw [show n + 1 - (k + 1) = (n - (k + 1)) + 1 by omega, fac_succ (n - (k + 1)), ← h2, show n - (k + 1) + 1 = n - k by omega]
        grind
      rw [e2, ← Nat.add_mul, show k + 1 + (n - k) = n + 1 by omega, fac_succ]
    · have : k = n := by omega
      subst this
      rw [ch_lt (by omega : k < k + 1), Nat.zero_mul, Nat.add_zero, fac_succ]
theorem prd_succ (lo k : Nat) : prd lo (k + 1) = prd lo k * (lo + k) := rfl
theorem prd_pos {lo : Nat} (h : 0 < lo) : ∀ k, 0 < prd lo k
  | 0 => Nat.one_pos
  | k + 1 => Nat.mul_pos (prd_pos h k) (by omega)
theorem prd_one : ∀ n, prd 1 n = fac n
  | 0 => rfl
  | n + 1 => by rw [prd_succ, prd_one n, fac_succ, Nat.mul_comm, Nat.add_comm 1 n]
theorem prd_add (lo : Nat) : ∀ j k, prd lo (j + k) = prd lo j * prd (lo + j) k
  | j, 0 => by simp [prd]
  | j, k + 1 => by rw [← Nat.add_assoc, prd_succ, prd_add lo j k, prd_succ, Nat.mul_assoc, Nat.add_assoc lo j k]
/-- the falling product -/
theorem prd_fall {n k : Nat} (h : k ≤ n) : prd (n - k + 1) k * fac (n - k) = fac n := by
  have e := prd_add 1 (n - k) k
  rw [prd_one, prd_one, show n - k + k = n by omega, Nat.add_comm 1] at e
  rw [e, Nat.mul_comm]
theorem ch_fall {n k : Nat} (h : k ≤ n) : ch n k * fac k = prd (n - k + 1) k := by
  have h1 := ch_fac h
  have h2 := prd_fall h
  rw [← h2, ← Nat.mul_assoc] at h1
  exact Nat.eq_of_mul_eq_mul_right (fac_pos _) h1
theorem ch_quo {n k : Nat} (h : k ≤ n) : prd (n - k + 1) k / fac k = ch n k := by
  rw [← ch_fall h, Nat.mul_div_cancel _ (fac_pos k)]
theorem ch_symm {n k : Nat} (h : k ≤ n) : ch n (n - k) = ch n k := by
  have h1 := ch_fac h
  have h2 := ch_fac (n := n) (k := n - k) (by omega)
  rw [show n - (n - k) = k by omega, Nat.mul_comm (fac (n - k)), ← h1] at h2
  exact Nat.eq_of_mul_eq_mul_right (Nat.mul_pos (fac_pos _) (fac_pos _)) h2
/-- one factor, one divisor: the product formula, step by step -/
theorem ch_step {n k : Nat} (h : k < n) : ch n (k + 1) * (k + 1) = ch n k * (n - k) := by
  have h1 := ch_fall (n := n) (k := k + 1) h
  have h2 := ch_fall (n := n) (k := k) (by omega)
  rw [fac_succ] at h1
  have e : prd (n - (k + 1) + 1) (k + 1) = (n - k) * prd (n - k + 1) k := by
    rw [show n - (k + 1) + 1 = n - k by omega, show k + 1 = 1 + k by omega, prd_add, show prd (n - k) 1 = n - k by simp [prd]]
  rw [e, ← h2] at h1
  refine Nat.eq_of_mul_eq_mul_right (fac_pos k) ?_
  grind
theorem ch_step_quo {n k : Nat} (h : k < n) : ch n k * (n - k) / (k + 1) = ch n (k + 1) := by
  rw [← ch_step h, Nat.mul_div_cancel _ (by omega)]
theorem ch_absorb {n k : Nat} : ch (n + 1) (k + 1) * (k + 1) = ch n k * (n + 1) := by
  rw [ch_succ, Nat.add_mul]
  by_cases h : k < n
  · rw [ch_step h, ← Nat.mul_add]
    congr 1
    omega
  · rw [ch_lt (by omega : n < k + 1), Nat.zero_mul, Nat.add_zero]
    by_cases h2 : k = n
    · subst h2; rfl
    · rw [ch_lt (by omega : n < k), Nat.zero_mul, Nat.zero_mul]
theorem ch_absorb_quo {n k : Nat} : ch n k * (n + 1) / (k + 1) = ch (n + 1) (k + 1) := by rw [← ch_absorb, Nat.mul_div_cancel _ (by omega)]
theorem ch_split_quo {n k : Nat} : ch (n + 1) (k + 1) * (k + 1) / (n + 1) = ch n k := by rw [ch_absorb, Nat.mul_div_cancel _ (by omega)]
theorem ch_le_pow : ∀ n k, ch n k ≤ 2 ^ n
  | n, 0 => by rw [ch_zero]; exact Nat.one_le_two_pow
  | 0, k + 1 => by simp [ch]
  | n + 1, k + 1 => by rw [ch_succ, Nat.pow_succ]; have := ch_le_pow n k; have := ch_le_pow n (k + 1); omega
theorem prd_le {lo m : Nat} : ∀ {k : Nat}, lo + k ≤ m + 1 → prd lo k ≤ m ^ k
  | 0, _ => by simp [prd]
  | k + 1, h => by rw [prd_succ, Nat.pow_succ]; exact Nat.mul_le_mul (prd_le (by omega)) (by omega)
theorem fac_le {n m : Nat} (h : n ≤ m) : fac n ≤ m ^ n := by rw [← prd_one]; exact prd_le (by omega)
theorem fac_le_fac : ∀ {n m : Nat}, n ≤ m → fac n ≤ fac m
  | n, 0, h => by
    obtain rfl : n = 0 := by omega
    exact Nat.le_refl _
  | n, m + 1, h => by
    by_cases e : n = m + 1
    · rw [e]; exact Nat.le_refl _
    · have := fac_le_fac (n := n) (m := m) (by omega)
      rw [fac_succ]
      exact Nat.le_trans this (Nat.le_mul_of_pos_left _ (by omega))
/-- the hockey stick: a run of a column -/
def col (k : Nat) (lo : Nat) : Nat → Nat
  | 0 => 0
  | c + 1 => col k lo c + ch (lo + c) k
theorem col_eq (k lo : Nat) : ∀ c, col k lo c + ch lo (k + 1) = ch (lo + c) (k + 1)
  | 0 => by simp [col]
  | c + 1 => by
    have := col_eq k lo c
    rw [← Nat.add_assoc lo c 1, ch_succ, ← this, col]
    omega
end

section
/-- the product of the factorials -/
def facs : List Nat → Nat
  | [] => 1
  | x :: l => fac x * facs l
def tot : List Nat → Nat
  | [] => 0
  | x :: l => x + tot l
/-- the product of the binomial coefficients of the partial sums, s before the first -/
def mlt (s : Nat) : List Nat → Nat
  | [] => 1
  | x :: l => ch (s + x) x * mlt (s + x) l
theorem facs_pos : ∀ l, 0 < facs l
  | [] => by decide
  | x :: l => Nat.mul_pos (fac_pos x) (facs_pos l)
theorem mlt_fac : ∀ (s : Nat) (l : List Nat), mlt s l * facs l * fac s = fac (s + tot l)
  | s, [] => by simp [mlt, facs, tot]
  | s, x :: l => by
    have h1 := mlt_fac (s + x) l
    have h2 := ch_fac (n := s + x) (k := x) (by omega)
    rw [show s + x - x = s by omega] at h2
    rw [mlt, facs, tot, ← Nat.add_assoc, ← h1, ← h2]
    grind
theorem mlt_eq (l : List Nat) : mlt 0 l * facs l = fac (tot l) := by
  have := mlt_fac 0 l
  rw [Nat.zero_add, show fac 0 = 1 from rfl, Nat.mul_one] at this
  exact this
theorem mlt_quo (l : List Nat) : fac (tot l) / facs l = mlt 0 l := by rw [← mlt_eq, Nat.mul_div_cancel _ (facs_pos l)]
theorem tot_append (l m : List Nat) : tot (l ++ m) = tot l + tot m := by
  induction l with
  | nil => simp [tot]
  | cons x l ih => simp only [List.cons_append, tot, ih]; omega
theorem facs_append (l m : List Nat) : facs (l ++ m) = facs l * facs m := by
  induction l with
  | nil => simp [facs]
  | cons x l ih => simp only [List.cons_append, facs, ih, Nat.mul_assoc]
theorem tot_reverse (l : List Nat) : tot l.reverse = tot l := by
  induction l with
  | nil => rfl
  | cons x l ih => rw [List.reverse_cons, tot_append, ih]; simp [tot]; omega
theorem facs_reverse (l : List Nat) : facs l.reverse = facs l := by
  induction l with
  | nil => rfl
  | cons x l ih => rw [List.reverse_cons, facs_append, ih]; simp [facs]; rw [Nat.mul_comm]
theorem mlt_reverse (l : List Nat) : mlt 0 l.reverse = mlt 0 l := by rw [← mlt_quo, ← mlt_quo, tot_reverse, facs_reverse]
theorem mlt_pos (l : List Nat) : 0 < mlt 0 l := by
  have h := mlt_eq l
  refine Nat.pos_of_ne_zero fun e => ?_
  rw [e, Nat.zero_mul] at h
  have := fac_pos (tot l)
  omega
/-- one division after another -/
def divs (n : Nat) : List Nat → Nat
  | [] => n
  | x :: l => divs (n / fac x) l
theorem divs_eq : ∀ (n : Nat) (l : List Nat), divs n l = n / facs l
  | n, [] => by simp [divs, facs]
  | n, x :: l => by rw [divs, divs_eq, facs, Nat.div_div_eq_div_mul]
theorem divs_mlt (l : List Nat) : divs (fac (tot l)) l = mlt 0 l := by rw [divs_eq, mlt_quo]
/-- partial sums, from the left -/
theorem mlt_append : ∀ (s : Nat) (l m : List Nat), mlt s (l ++ m) = mlt s l * mlt (s + tot l) m
  | s, [], m => by simp [mlt, tot]
  | s, x :: l, m => by rw [List.cons_append, mlt, mlt_append, mlt, tot, Nat.mul_assoc, Nat.add_assoc]
theorem mlt_le (l : List Nat) : mlt 0 l ≤ fac (tot l) := by
  rw [← mlt_eq]
  exact Nat.le_mul_of_pos_right _ (facs_pos l)
end

section
/-- a strictly rising list of numbers from f on, below n -/
def Ris (n : Nat) : Nat → List Nat → Prop
  | _, [] => True
  | f, x :: l => f ≤ x ∧ x < n ∧ Ris n (x + 1) l
/-- how many begin with one of f .. f + c - 1 and have k more behind it -/
def run (n k f : Nat) : Nat → Nat
  | 0 => 0
  | c + 1 => run n k f c + ch (n - 1 - (f + c)) k
/-- the rank among the lists from f on -/
def rk (n : Nat) : Nat → List Nat → Nat
  | _, [] => 0
  | f, x :: l => run n l.length f (x - f) + rk n (x + 1) l
theorem run_le {n k f : Nat} : ∀ {c : Nat}, f + c ≤ n → run n k f c + ch (n - (f + c)) (k + 1) = ch (n - f) (k + 1)
  | 0, _ => by simp [run]
  | c + 1, h => by
    have ih := run_le (n := n) (k := k) (f := f) (c := c) (by omega)
    rw [run, ← ih, show n - (f + c) = n - 1 - (f + c) + 1 by omega, ch_succ, show n - (f + (c + 1)) = n - 1 - (f + c) by omega]
    omega
theorem run_mono {n k f c d : Nat} (h : c ≤ d) : run n k f c ≤ run n k f d := by
  obtain ⟨e, rfl⟩ : ∃ e, d = c + e := ⟨d - c, by omega⟩
  clear h
  induction e with
  | zero => exact Nat.le_refl _
  | succ e ih => rw [← Nat.add_assoc, run]; omega
theorem Ris.length_le {n : Nat} : ∀ {f : Nat} {l : List Nat}, Ris n f l → f ≤ n → l.length ≤ n - f
  | _, [], _, _ => Nat.zero_le _
  | f, x :: l, ⟨h1, h2, h3⟩, _ => by
    have := Ris.length_le h3 (by omega)
    simp only [List.length_cons]
    omega
theorem rk_lt {n : Nat} : ∀ {f : Nat} {l : List Nat}, Ris n f l → f ≤ n → rk n f l < ch (n - f) l.length
  | f, [], _, _ => by simp only [rk, List.length_nil, ch_zero]; omega
  | f, x :: l, ⟨h1, h2, h3⟩, _ => by
    have ih := rk_lt h3 (by omega)
    have e := run_le (n := n) (k := l.length) (f := f) (c := x - f) (by omega)
    rw [show f + (x - f) = x by omega, show n - x = n - (x + 1) + 1 by omega, ch_succ] at e
    simp only [rk, List.length_cons]
    omega
/-- the subset of size k at rank r, of the numbers from f on; d: how many numbers are left (n - f) -/
def urk (n : Nat) : Nat → Nat → Nat → Nat → List Nat
  | 0, _, _, _ => []
  | _ + 1, _, 0, _ => []
  | d + 1, f, k + 1, r => if r < ch (n - 1 - f) k then f :: urk n d (f + 1) k r else urk n d (f + 1) (k + 1) (r - ch (n - 1 - f) k)
theorem urk_nil (n d f r : Nat) : urk n d f 0 r = [] := by cases d <;> rfl
/-- from f on is from f + 1 on, if f itself is not the first -/
theorem Ris.weaken {n : Nat} : ∀ {f g : Nat} {l : List Nat}, f ≤ g → Ris n g l → Ris n f l
  | _, _, [], _, _ => trivial
  | _, _, _ :: _, hg, ⟨h1, h2, h3⟩ => ⟨Nat.le_trans hg h1, h2, h3⟩
theorem run_shift {n k f : Nat} : ∀ c, run n k f (c + 1) = ch (n - 1 - f) k + run n k (f + 1) c
  | 0 => by simp [run]
  | c + 1 => by rw [run, run_shift c, run, show f + (c + 1) = f + 1 + c by omega]; omega
theorem urk_ok {n : Nat} : ∀ {d f k r : Nat}, d = n - f → f ≤ n → r < ch (n - f) k →
    Ris n f (urk n d f k r) ∧ (urk n d f k r).length = k ∧ rk n f (urk n d f k r) = r
  | d, f, 0, r, _, _, h => by
    rw [urk_nil]
    rw [ch_zero] at h
    exact ⟨trivial, rfl, by simp only [rk]; omega⟩
  | 0, f, k + 1, r, hd, hf, h => by
    rw [ch_lt (by omega)] at h
    omega
  | d + 1, f, k + 1, r, hd, hf, h => by
    rw [urk]
    by_cases hr : r < ch (n - 1 - f) k
    · rw [if_pos hr]
      obtain ⟨a, b, c⟩ := urk_ok (n := n) (d := d) (f := f + 1) (k := k) (r := r) (by omega) (by omega) (by rw [show n - (f + 1) = n - 1 - f by omega]; exact hr)
      refine ⟨⟨Nat.le_refl _, by omega, a⟩, by simp only [List.length_cons, b], ?_⟩
      simp only [rk, Nat.sub_self, run, c]
      omega
    · rw [if_neg hr]
      have e : ch (n - f) (k + 1) = ch (n - 1 - f) k + ch (n - 1 - f) (k + 1) := by rw [show n - f = n - 1 - f + 1 by omega, ch_succ]
      obtain ⟨a, b, c⟩ := urk_ok (n := n) (d := d) (f := f + 1) (k := k + 1) (r := r - ch (n - 1 - f) k) (by omega) (by omega) (by rw [show n - (f + 1) = n - 1 - f by omega]; omega)
      refine ⟨a.weaken (by omega), b, ?_⟩
      generalize urk n d (f + 1) (k + 1) (r - ch (n - 1 - f) k) = l at a b c
      match l, b with
      | x :: t, b =>
        obtain ⟨h1, h2, h3⟩ := a
        simp only [List.length_cons, Nat.add_right_cancel_iff] at b
        simp only [rk] at c ⊢
        rw [show x - f = (x - (f + 1)) + 1 by omega, run_shift, b]
        rw [b] at c
        omega
/-- of two lists of one length the one with the smaller number at the first difference has the smaller rank -/
theorem rk_order {n : Nat} : ∀ {f : Nat} {l m : List Nat}, Ris n f l → Ris n f m → l.length = m.length → f ≤ n → ∀ (p : List Nat) (x y : Nat) (s t : List Nat), l = p ++ x :: s → m = p ++ y :: t → x < y → rk n f l < rk n f m
  | f, l, m, hl, hm, hlen, hf, [], x, y, s, t, e1, e2, hxy => by
    simp only [List.nil_append] at e1 e2
    subst e1 e2
    obtain ⟨a1, a2, a3⟩ := hl
    obtain ⟨b1, b2, b3⟩ := hm
    simp only [List.length_cons, Nat.add_right_cancel_iff] at hlen
    have h1 := rk_lt a3 (by omega)
    have h2 : run n s.length f (x - f + 1) ≤ run n s.length f (y - f) := run_mono (by omega)
    rw [run, show f + (x - f) = x by omega] at h2
    simp only [rk]
    rw [show n - (x + 1) = n - 1 - x by omega] at h1
    rw [← hlen]
    omega
  | f, l, m, hl, hm, hlen, hf, z :: p, x, y, s, t, e1, e2, hxy => by
    simp only [List.cons_append] at e1 e2
    subst e1 e2
    obtain ⟨a1, a2, a3⟩ := hl
    obtain ⟨b1, b2, b3⟩ := hm
    simp only [List.length_cons, Nat.add_right_cancel_iff] at hlen
    have := rk_order a3 b3 hlen (by omega) p x y s t rfl rfl hxy
    simp only [rk]
    rw [hlen]
    omega
/-- the ranks tell the lists apart -/
theorem rk_inj {n : Nat} : ∀ {f : Nat} {l m : List Nat}, Ris n f l → Ris n f m → l.length = m.length → f ≤ n → rk n f l = rk n f m → l = m
  | _, [], [], _, _, _, _, _ => rfl
  | f, x :: l, y :: m, ⟨a1, a2, a3⟩, ⟨b1, b2, b3⟩, hlen, hf, he => by
    have hlen' : l.length = m.length := by simpa using hlen
    rcases Nat.lt_trichotomy x y with h | h | h
    · have := rk_order (n := n) (f := f) (l := x :: l) (m := y :: m) ⟨a1, a2, a3⟩ ⟨b1, b2, b3⟩ hlen hf [] x y l m rfl rfl h
      omega
    · subst h
      simp only [rk, hlen'] at he
      rw [rk_inj a3 b3 hlen' (by omega) (by omega)]
    · have := rk_order (n := n) (f := f) (l := y :: m) (m := x :: l) ⟨b1, b2, b3⟩ ⟨a1, a2, a3⟩ hlen.symm hf [] y x m l rfl rfl h
      omega
  | _, [], _ :: _, _, _, h, _, _ => by simp at h
  | _, _ :: _, [], _, _, h, _, _ => by simp at h
end

section
/-- a, a + 1, .., a + m - 1 -/
def sq (a : Nat) : Nat → List Nat
  | 0 => []
  | m + 1 => a :: sq (a + 1) m
theorem sq_length : ∀ (a m : Nat), (sq a m).length = m
  | _, 0 => rfl
  | a, m + 1 => by rw [sq, List.length_cons, sq_length]
theorem sq_ris {n : Nat} : ∀ {a f m : Nat}, f ≤ a → a + m ≤ n → Ris n f (sq a m)
  | _, _, 0, _, _ => trivial
  | a, f, m + 1, h1, h2 => ⟨h1, by omega, sq_ris (Nat.le_refl _) (by omega)⟩
theorem sq_rk {n : Nat} : ∀ (a m : Nat), rk n a (sq a m) = 0
  | _, 0 => rfl
  | a, m + 1 => by rw [sq, rk, Nat.sub_self, run, sq_rk]
/-- the next subset -/
def nxt (n : Nat) : List Nat → Option (List Nat)
  | [] => none
  | x :: t => match nxt n t with
    | some u => some (x :: u)
    | none => if x + 1 + t.length < n then some (sq (x + 1) (t.length + 1)) else none
theorem nxt_ok {n : Nat} : ∀ {f : Nat} {l : List Nat}, Ris n f l → f ≤ n →
    (∀ m, nxt n l = some m → Ris n f m ∧ m.length = l.length ∧ rk n f m = rk n f l + 1) ∧ (nxt n l = none → rk n f l + 1 = ch (n - f) l.length)
  | f, [], _, _ => ⟨fun m h => (by simp [nxt] at h), fun _ => (by simp only [rk, List.length_nil, ch_zero])⟩
  | f, x :: t, ⟨h1, h2, h3⟩, hf => by
    obtain ⟨ia, ib⟩ := nxt_ok h3 (by omega)
    have hlen := h3.length_le (by omega)
    have er := run_le (n := n) (k := t.length) (f := f) (c := x - f + 1) (by omega)
    have es : run n t.length f (x - f + 1) = run n t.length f (x - f) + ch (n - 1 - x) t.length := by rw [run, show f + (x - f) = x by omega]
    cases ht : nxt n t with
    | some u =>
      obtain ⟨a, b, c⟩ := ia u ht
      have e : nxt n (x :: t) = some (x :: u) := by rw [nxt, ht]
      refine ⟨fun m h => ?_, fun h => by rw [e] at h; cases h⟩
      rw [e] at h
      cases h
      refine ⟨⟨h1, h2, a⟩, by simp only [List.length_cons, b], ?_⟩
      simp only [rk, b, c]
      omega
    | none =>
      have hr := ib ht
      rw [show n - (x + 1) = n - 1 - x by omega] at hr
      by_cases hx : x + 1 + t.length < n
      · have e : nxt n (x :: t) = some (sq (x + 1) (t.length + 1)) := by rw [nxt, ht]; exact if_pos hx
        refine ⟨fun m h => ?_, fun h => by rw [e] at h; cases h⟩
        rw [e] at h
        cases h
        refine ⟨sq_ris (by omega) (by omega), by rw [sq_length, List.length_cons], ?_⟩
        rw [sq]
        simp only [rk, sq_length, sq_rk, show x + 1 - f = x - f + 1 by omega, es]
        omega
      · have e : nxt n (x :: t) = none := by rw [nxt, ht]; exact if_neg hx
        refine ⟨fun m h => (by rw [e] at h; cases h), fun _ => ?_⟩
        rw [ch_lt (by omega : n - (f + (x - f + 1)) < t.length + 1)] at er
        simp only [rk, List.length_cons]
        omega
/-- the last subset has none behind it -/
theorem nxt_last {n : Nat} : ∀ {k : Nat}, k ≤ n → nxt n (sq (n - k) k) = none
  | 0, _ => rfl
  | k + 1, h => by
    rw [sq, show n - (k + 1) + 1 = n - k by omega, nxt, nxt_last (by omega), sq_length]
    exact if_neg (by omega)
/-- the last number that can grow grows -/
theorem nxt_at {n x k : Nat} (h : x + 1 + k < n) : ∀ p : List Nat, nxt n (p ++ x :: sq (n - k) k) = some (p ++ sq (x + 1) (k + 1))
  | [] => by
    rw [List.nil_append, nxt, nxt_last (by omega), sq_length]
    exact if_pos h
  | y :: p => by rw [List.cons_append, nxt, nxt_at h p]; rfl
theorem nxt_some_iff {n f : Nat} {l : List Nat} (h : Ris n f l) (hf : f ≤ n) : (nxt n l).isSome = decide (rk n f l + 1 < ch (n - f) l.length) := by
  obtain ⟨a, b⟩ := nxt_ok h hf
  cases hn : nxt n l with
  | none => rw [b hn]; simp
  | some m =>
    obtain ⟨c, d, e⟩ := a m hn
    have := rk_lt c hf
    rw [d, e] at this
    simp [this]
end

section
/-- the sum of f 0 .. f (n - 1) -/
def qs (f : Nat → Rat) : Nat → Rat
  | 0 => 0
  | n + 1 => qs f n + f n
theorem qs_succ (f : Nat → Rat) (n : Nat) : qs f (n + 1) = qs f n + f n := rfl
theorem qs_congr {f g : Nat → Rat} : ∀ {n : Nat}, (∀ i, i < n → f i = g i) → qs f n = qs g n
  | 0, _ => rfl
  | n + 1, h => by rw [qs, qs, qs_congr fun i hi => h i (by omega), h n (by omega)]
theorem qs_add (f g : Nat → Rat) : ∀ n, qs (fun i => f i + g i) n = qs f n + qs g n
  | 0 => by simp only [qs]; grind
  | n + 1 => by rw [qs, qs, qs, qs_add f g n]; grind
theorem qs_mul (f : Nat → Rat) (c : Rat) : ∀ n, qs (fun i => f i * c) n = qs f n * c
  | 0 => by simp [qs]
  | n + 1 => by rw [qs, qs, qs_mul f c n]; grind
theorem qs_zero {f : Nat → Rat} : ∀ {n : Nat}, (∀ i, i < n → f i = 0) → qs f n = 0
  | 0, _ => rfl
  | n + 1, h => by rw [qs, qs_zero fun i hi => h i (by omega), h n (by omega)]; grind
/-- the first one apart -/
theorem qs_first (f : Nat → Rat) : ∀ n, qs f (n + 1) = f 0 + qs (fun i => f (i + 1)) n
  | 0 => by simp [qs]; grind
  | n + 1 => by rw [qs, qs_first f n, qs]; grind
theorem qs_split (f : Nat → Rat) (m : Nat) : ∀ n, qs f (m + n) = qs f m + qs (fun i => f (m + i)) n
  | 0 => by simp [qs]; grind
  | n + 1 => by rw [← Nat.add_assoc, qs, qs_split f m n, qs]; grind
/-- no more behind the support -/
theorem qs_supp {f : Nat → Rat} {m n : Nat} (h : m ≤ n) (hs : ∀ i, m ≤ i → f i = 0) : qs f n = qs f m := by
  obtain ⟨k, rfl⟩ : ∃ k, n = m + k := ⟨n - m, by omega⟩
  rw [qs_split, qs_zero fun i _ => hs (m + i) (by omega)]
  grind
theorem qs_nonneg {f : Nat → Rat} : ∀ {n : Nat}, (∀ i, i < n → 0 ≤ f i) → 0 ≤ qs f n
  | 0, _ => by simp [qs]
  | n + 1, h => by
    have h1 := qs_nonneg (f := f) (n := n) fun i hi => h i (by omega)
    have h2 := h n (by omega)
    rw [qs]
    grind
theorem qs_le {f g : Nat → Rat} : ∀ {n : Nat}, (∀ i, i < n → f i ≤ g i) → qs f n ≤ qs g n
  | 0, _ => by simp [qs]
  | n + 1, h => by
    have h1 := qs_le (f := f) (g := g) (n := n) fun i hi => h i (by omega)
    have h2 := h n (by omega)
    rw [qs, qs]
    grind
/-- one of them is at most the sum -/
theorem qs_one {f : Nat → Rat} {k : Nat} : ∀ {n : Nat}, (∀ i, i < n → 0 ≤ f i) → k < n → f k ≤ qs f n
  | 0, _, h => by omega
  | n + 1, h, hk => by
    have h1 := qs_nonneg (f := f) (n := n) fun i hi => h i (by omega)
    have h2 := h n (by omega)
    rw [qs]
    by_cases e : k = n
    · subst e; grind
    · have := qs_one (f := f) (k := k) (n := n) (fun i hi => h i (by omega)) (by omega)
      grind
theorem qs_rev (f : Nat → Rat) : ∀ n, qs f n = qs (fun i => f (n - 1 - i)) n
  | 0 => rfl
  | n + 1 => by
    rw [qs_first (fun i => f (n + 1 - 1 - i)) n, qs_succ, qs_rev f n]
    have e : qs (fun i => f (n - 1 - i)) n = qs (fun i => f (n + 1 - 1 - (i + 1))) n := qs_congr fun i _ => by rw [show n + 1 - 1 - (i + 1) = n - 1 - i by omega]
    rw [e]
    simp only [Nat.add_sub_cancel, Nat.sub_zero]
    grind
/-- two terms: g (k) a + g (k - 1) b -/
def st (a b : Rat) (g : Nat → Rat) : Nat → Rat
  | 0 => g 0 * a
  | k + 1 => g (k + 1) * a + g k * b
/-- certainly 0 -/
def dl0 : Nat → Rat
  | 0 => 1
  | _ + 1 => 0
/-- the convolution -/
def cv (f g : Nat → Rat) (k : Nat) : Rat := qs (fun i => f i * g (k - i)) (k + 1)
theorem cv_comm (f g : Nat → Rat) (k : Nat) : cv f g k = cv g f k := by
  rw [cv, qs_rev, cv]
  refine qs_congr fun i hi => ?_
  rw [show k + 1 - 1 - i = k - i by omega, show k - (k - i) = i by omega, Rat.mul_comm]
theorem cv_dl0 (f : Nat → Rat) (k : Nat) : cv f dl0 k = f k := by
  rw [cv, qs, qs_zero fun i hi => ?_, Nat.sub_self]
  · simp [dl0]; grind
  · obtain ⟨j, hj⟩ : ∃ j, k - i = j + 1 := ⟨k - i - 1, by omega⟩
    rw [hj]; simp [dl0]
theorem cv_st (f g : Nat → Rat) (a b : Rat) (k : Nat) : cv f (st a b g) k = st a b (cv f g) k := by
  cases k with
  | zero => simp [cv, qs, st]; grind
  | succ k =>
    rw [cv, qs_succ, Nat.sub_self]
    have e : qs (fun i => f i * st a b g (k + 1 - i)) (k + 1) = qs (fun i => f i * g (k + 1 - i)) (k + 1) * a + qs (fun i => f i * g (k - i)) (k + 1) * b := by
      rw [← qs_mul, ← qs_mul, ← qs_add]
      refine qs_congr fun i hi => ?_
      rw [show k + 1 - i = (k - i) + 1 by omega, st]
      grind
    rw [e, st, st, cv, qs_succ _ (k + 1), Nat.sub_self, cv]
    grind
theorem cv_congr {f f' g g' : Nat → Rat} {k : Nat} (h1 : ∀ i, i ≤ k → f i = f' i) (h2 : ∀ i, i ≤ k → g i = g' i) : cv f g k = cv f' g' k := by
  rw [cv, cv]
  exact qs_congr fun i hi => by rw [h1 i (by omega), h2 (k - i) (by omega)]
theorem st_congr {a b : Rat} {g g' : Nat → Rat} (h : ∀ i, g i = g' i) (k : Nat) : st a b g k = st a b g' k := by
  cases k with
  | zero => simp only [st, h]
  | succ k => simp only [st, h]
theorem cv_st_left (f g : Nat → Rat) (a b : Rat) (k : Nat) : cv (st a b f) g k = st a b (cv f g) k := by
  rw [cv_comm, cv_st]
  exact st_congr (fun i => cv_comm _ _ _) k
theorem cv_dl_left (f : Nat → Rat) (k : Nat) : cv dl0 f k = f k := by rw [cv_comm, cv_dl0]
/-- trials one after another -/
def trl : List Rat → Nat → Rat
  | [] => dl0
  | p :: ps => st (1 - p) p (trl ps)
/-- two groups of trials -/
theorem trl_append : ∀ (ps rs : List Rat) (k : Nat), trl (ps ++ rs) k = cv (trl ps) (trl rs) k
  | [], rs, k => (cv_dl_left _ _).symm
  | p :: ps, rs, k => by
    rw [List.cons_append, trl, trl, cv_st_left]
    exact st_congr (trl_append ps rs) k
theorem trl_one (p : Rat) (k : Nat) : trl [p] k = st (1 - p) p dl0 k := rfl
/-- the last trial last -/
theorem trl_snoc (ps : List Rat) (p : Rat) (k : Nat) : trl (ps ++ [p]) k = st (1 - p) p (trl ps) k := by
  rw [trl_append, trl, cv_st]
  exact st_congr (fun i => cv_dl0 _ _) k
theorem trl_supp : ∀ {ps : List Rat} {k : Nat}, ps.length < k → trl ps k = 0
  | [], 0, h => by simp at h
  | [], _ + 1, _ => rfl
  | p :: ps, 0, h => by simp at h
  | p :: ps, k + 1, h => by
    simp only [List.length_cons] at h
    rw [trl, st, trl_supp (by omega), trl_supp (by omega)]
    grind
theorem trl_nonneg : ∀ {ps : List Rat}, (∀ p ∈ ps, 0 ≤ p ∧ p ≤ 1) → ∀ k, 0 ≤ trl ps k
  | [], _, 0 => by simp only [trl, dl0]; grind
  | [], _, _ + 1 => by simp [trl, dl0]
  | p :: ps, h, k => by
    have h1 := h p (by simp)
    have ih := trl_nonneg (ps := ps) fun q hq => h q (by simp [hq])
    have hp : 0 ≤ 1 - p := by grind
    cases k with
    | zero => exact Rat.mul_nonneg (ih 0) hp
    | succ k =>
      have a := Rat.mul_nonneg (ih (k + 1)) hp
      have b := Rat.mul_nonneg (ih k) h1.1
      rw [trl, st]
      grind
/-- a sum over one more trial -/
theorem qs_st (φ g : Nat → Rat) (a b : Rat) (n : Nat) : qs (fun k => φ k * st a b g k) (n + 1) = qs (fun k => φ k * g k) (n + 1) * a + qs (fun k => φ (k + 1) * g k) n * b := by
  rw [qs_first, qs_first (fun k => φ k * g k)]
  have e : qs (fun i => φ (i + 1) * st a b g (i + 1)) n = qs (fun i => φ (i + 1) * g (i + 1)) n * a + qs (fun k => φ (k + 1) * g k) n * b := by
    rw [← qs_mul, ← qs_mul, ← qs_add]
    exact qs_congr fun i _ => by rw [st]; grind
  rw [e, st]
  grind
/-- the weighted sum over a distribution of trials -/
def wt (φ : Nat → Rat) (ps : List Rat) : Rat := qs (fun k => φ k * trl ps k) (ps.length + 1)
theorem wt_cons (φ : Nat → Rat) (p : Rat) (ps : List Rat) : wt φ (p :: ps) = wt φ ps * (1 - p) + wt (fun k => φ (k + 1)) ps * p := by
  rw [wt, List.length_cons, trl, qs_st, qs_succ (fun k => φ k * trl ps k) (ps.length + 1), trl_supp (by omega)]
  rw [wt, wt]
  grind
theorem wt_add (φ ψ : Nat → Rat) (ps : List Rat) : wt (fun k => φ k + ψ k) ps = wt φ ps + wt ψ ps := by
  rw [wt, wt, wt, ← qs_add]
  exact qs_congr fun i _ => by grind
theorem wt_mul (φ : Nat → Rat) (c : Rat) (ps : List Rat) : wt (fun k => φ k * c) ps = wt φ ps * c := by
  rw [wt, wt, ← qs_mul]
  exact qs_congr fun i _ => by grind
def tsum : List Rat → Rat
  | [] => 0
  | p :: ps => p + tsum ps
def tvar : List Rat → Rat
  | [] => 0
  | p :: ps => p * (1 - p) + tvar ps
theorem wt_one : ∀ ps, wt (fun _ => 1) ps = 1
  | [] => by simp [wt, qs, trl, dl0]; grind
  | p :: ps => by rw [wt_cons, wt_one ps]; grind
theorem wt_mean : ∀ ps, wt (fun k => (k : Rat)) ps = tsum ps
  | [] => by simp [wt, qs, trl, dl0, tsum]; grind
  | p :: ps => by
    rw [wt_cons, wt_mean ps, tsum]
    have e : wt (fun k => ((k + 1 : Nat) : Rat)) ps = wt (fun k => (k : Rat)) ps + wt (fun _ => 1) ps := by
      rw [← wt_add]
      exact congrArg (fun φ => wt φ ps) (funext fun k => by simp)
    rw [e, wt_mean ps, wt_one]
    grind
theorem wt_square : ∀ ps, wt (fun k => (k : Rat) * (k : Rat)) ps = tvar ps + tsum ps * tsum ps
  | [] => by simp [wt, qs, trl, dl0, tsum, tvar]
  | p :: ps => by
    rw [wt_cons, wt_square ps, tsum, tvar]
    have e : wt (fun k => ((k + 1 : Nat) : Rat) * ((k + 1 : Nat) : Rat)) ps = wt (fun k => (k : Rat) * (k : Rat)) ps + (wt (fun k => (k : Rat)) ps * 2 + wt (fun _ => 1) ps) := by
      rw [← wt_mul, ← wt_add, ← wt_add]
      exact congrArg (fun φ => wt φ ps) (funext fun k => by simp; grind)
    rw [e, wt_square ps, wt_mean ps, wt_one]
    grind
theorem tsum_append (ps rs : List Rat) : tsum (ps ++ rs) = tsum ps + tsum rs := by
  induction ps with
  | nil => simp [tsum]; grind
  | cons p ps ih => rw [List.cons_append, tsum, tsum, ih]; grind
theorem tvar_append (ps rs : List Rat) : tvar (ps ++ rs) = tvar ps + tvar rs := by
  induction ps with
  | nil => simp [tvar]; grind
  | cons p ps ih => rw [List.cons_append, tvar, tvar, ih]; grind
theorem tsum_rep (n : Nat) (p : Rat) : tsum (List.replicate n p) = p * (n : Rat) := by
  induction n with
  | zero => simp [tsum]
  | succ n ih => rw [List.replicate_succ, tsum, ih]; simp; grind
theorem tvar_rep (n : Nat) (p : Rat) : tvar (List.replicate n p) = p * (n : Rat) * (1 - p) := by
  induction n with
  | zero => simp [tvar]
  | succ n ih => rw [List.replicate_succ, tvar, ih]; simp; grind
/-- equal trials: the binomial distribution -/
def pq (p : Rat) : Nat → Rat
  | 0 => 1
  | n + 1 => pq p n * p
def bin (n : Nat) (p : Rat) (k : Nat) : Rat := (ch n k : Rat) * pq p k * pq (1 - p) (n - k)
theorem bin_st (n : Nat) (p : Rat) (k : Nat) : st (1 - p) p (bin n p) k = bin (n + 1) p k := by
  cases k with
  | zero => simp [st, bin, ch_zero, pq]
  | succ k =>
    rw [st, bin, bin, bin, ch_succ, show n + 1 - (k + 1) = n - k by omega]
    simp only [pq]
    by_cases h : k + 1 ≤ n
    · rw [show n - k = (n - (k + 1)) + 1 by omega]
      simp [pq]
      grind
    · rw [ch_lt (by omega : n < k + 1)]
      simp
      grind
theorem bin_trl (n : Nat) (p : Rat) : ∀ k, trl (List.replicate n p) k = bin n p k := by
  induction n with
  | zero => intro k; cases k <;> simp [trl, dl0, bin, ch, pq]
  | succ n ih =>
    intro k
    rw [List.replicate_succ, trl, ← bin_st]
    exact st_congr ih k
/-- binomial coefficients as numbers -/
def cq (n : Nat) (k : Nat) : Rat := (ch n k : Rat)
theorem cq_st (n : Nat) (k : Nat) : st 1 1 (cq n) k = cq (n + 1) k := by
  cases k with
  | zero => simp [st, cq, ch_zero]
  | succ k => simp only [st, cq, ch_succ]; simp; grind
theorem vandermonde (m r : Nat) : ∀ k, cv (cq m) (cq r) k = cq (m + r) k := by
  induction r with
  | zero =>
    intro k
    have e : ∀ i, cq 0 i = dl0 i := fun i => by cases i <;> simp [cq, ch, dl0]
    rw [cv_congr (fun _ _ => rfl) (fun i _ => e i), cv_dl0, Nat.add_zero]
  | succ r ih =>
    intro k
    rw [cv_congr (fun _ _ => rfl) (fun i _ => (cq_st r i).symm), cv_st, ← Nat.add_assoc, ← cq_st]
    exact st_congr ih k
end

section
theorem qs_tail {f : Nat → Rat} {m n : Nat} (h : m ≤ n) (hs : ∀ i, m ≤ i → i < n → f i = 0) : qs f n = qs f m := by
  obtain ⟨k, rfl⟩ : ∃ k, n = m + k := ⟨n - m, by omega⟩
  rw [qs_split, qs_zero fun i hi => hs (m + i) (by omega) (by omega)]
  grind
/-- exchanging the marked and the drawn ones -/
theorem ch_exchange {t m d k : Nat} (hm : m ≤ t) (hd : d ≤ t) (h1 : k ≤ m) (h2 : k ≤ d) : ch m k * ch (t - m) (d - k) * ch t m = ch d k * ch (t - d) (m - k) * ch t d := by
  by_cases h : d - k ≤ t - m
  · have e1 := ch_fac h1
    have e2 := ch_fac h
    have e3 := ch_fac hm
    have e4 := ch_fac h2
    have e5 := ch_fac (n := t - d) (k := m - k) (by omega)
    have e6 := ch_fac hd
    rw [show t - d - (m - k) = t - m - (d - k) by omega] at e5
    have p1 := fac_pos k
    have p2 := fac_pos (m - k)
    have p3 := fac_pos (d - k)
    have p4 := fac_pos (t - m - (d - k))
    have p : 0 < fac k * fac (m - k) * (fac (d - k) * fac (t - m - (d - k))) := Nat.mul_pos (Nat.mul_pos p1 p2) (Nat.mul_pos p3 p4)
    refine Nat.eq_of_mul_eq_mul_right p ?_
    have l : ch m k * ch (t - m) (d - k) * ch t m * (fac k * fac (m - k) * (fac (d - k) * fac (t - m - (d - k)))) = fac t := by
      rw [← e3, ← e1, ← e2]; grind
    have r : ch d k * ch (t - d) (m - k) * ch t d * (fac k * fac (m - k) * (fac (d - k) * fac (t - m - (d - k)))) = fac t := by
      rw [← e6, ← e4, ← e5]; grind
    rw [l, r]
  · rw [ch_lt (by omega : t - m < d - k), ch_lt (by omega : t - d < m - k)]
    simp
theorem cq_ne {n k : Nat} (h : k ≤ n) : cq n k ≠ 0 := by
  have := ch_pos h
  unfold cq
  intro e
  have e2 : ((ch n k : Nat) : Rat) = ((0 : Nat) : Rat) := by simpa using e
  have := Rat.natCast_inj.1 e2
  omega
def hyp (t m d k : Nat) : Rat := cq m k * cq (t - m) (d - k) / cq t d
theorem hyp_exchange {t m d k : Nat} (hm : m ≤ t) (hd : d ≤ t) (h1 : k ≤ m) (h2 : k ≤ d) : hyp t m d k = hyp t d m k := by
  have e := ch_exchange hm hd h1 h2
  have e' : cq m k * cq (t - m) (d - k) * cq t m = cq d k * cq (t - d) (m - k) * cq t d := by
    unfold cq
    rw [← Rat.natCast_mul, ← Rat.natCast_mul, e, Rat.natCast_mul, Rat.natCast_mul]
  have n1 := cq_ne hd
  have n2 := cq_ne hm
  unfold hyp
  grind
theorem hyp_sum {t m d : Nat} (hm : m ≤ t) (hd : d ≤ t) : qs (hyp t m d) (min m d + 1) = 1 := by
  have e1 : qs (hyp t m d) (min m d + 1) = qs (fun k => cq m k * cq (t - m) (d - k)) (d + 1) * (cq t d)⁻¹ := by
    rw [qs_tail (m := min m d + 1) (n := d + 1) (by omega) (fun i h1 h2 => by rw [cq, ch_lt (by omega : m < i)]; simp), ← qs_mul]
    exact qs_congr fun i _ => by rw [hyp, Rat.div_def]
  have e2 : qs (fun k => cq m k * cq (t - m) (d - k)) (d + 1) = cq t d := by
    have := vandermonde m (t - m) d
    rw [show m + (t - m) = t by omega] at this
    exact this
  rw [e1, e2]
  exact Rat.mul_inv_cancel _ (cq_ne hd)
theorem hyp_mean {t m d : Nat} (hm : m ≤ t) (hd : d ≤ t) (ht : 0 < t) : qs (fun k => (k : Rat) * hyp t m d k) (min m d + 1) = (m : Rat) / (t : Rat) * (d : Rat) := by
  have nt : (t : Rat) ≠ 0 := by
    intro e
    have e2 : ((t : Nat) : Rat) = ((0 : Nat) : Rat) := by simpa using e
    have := Rat.natCast_inj.1 e2
    omega
  have e1 : qs (fun k => (k : Rat) * hyp t m d k) (min m d + 1) = qs (fun k => (k : Rat) * cq m k * cq (t - m) (d - k)) (d + 1) * (cq t d)⁻¹ := by
    rw [qs_tail (m := min m d + 1) (n := d + 1) (by omega) (fun i h1 h2 => by rw [cq, ch_lt (by omega : m < i)]; simp), ← qs_mul]
    exact qs_congr fun i _ => by rw [hyp, Rat.div_def]; grind
  rw [e1]
  by_cases h0 : m = 0 ∨ d = 0
  · rcases h0 with rfl | rfl
    · rw [qs_zero fun i _ => ?_]
      · simp [Rat.div_def]
      · cases i with
        | zero => simp
        | succ i => simp [cq, ch]
    · simp [qs]; grind
  · obtain ⟨a, rfl⟩ : ∃ a, m = a + 1 := ⟨m - 1, by omega⟩
    obtain ⟨b, rfl⟩ : ∃ b, d = b + 1 := ⟨d - 1, by omega⟩
    obtain ⟨s, rfl⟩ : ∃ s, t = s + 1 := ⟨t - 1, by omega⟩
    rw [qs_first]
    have e2 : qs (fun i => ((i + 1 : Nat) : Rat) * cq (a + 1) (i + 1) * cq (s + 1 - (a + 1)) (b + 1 - (i + 1))) (b + 1) = qs (fun i => cq a i * cq (s - a) (b - i)) (b + 1) * ((a + 1 : Nat) : Rat) := by
      rw [← qs_mul]
      refine qs_congr fun i _ => ?_
      have h := ch_absorb (n := a) (k := i)
      have h' : cq (a + 1) (i + 1) * ((i + 1 : Nat) : Rat) = cq a i * ((a + 1 : Nat) : Rat) := by
        unfold cq
        rw [← Rat.natCast_mul, h, Rat.natCast_mul]
      rw [show s + 1 - (a + 1) = s - a by omega, show b + 1 - (i + 1) = b - i by omega]
      grind
    have e3 : qs (fun i => cq a i * cq (s - a) (b - i)) (b + 1) = cq s b := by
      have := vandermonde a (s - a) b
      rw [show a + (s - a) = s by omega] at this
      exact this
    have h := ch_absorb (n := s) (k := b)
    have h' : cq (s + 1) (b + 1) * ((b + 1 : Nat) : Rat) = cq s b * ((s + 1 : Nat) : Rat) := by
      unfold cq
      rw [← Rat.natCast_mul, h, Rat.natCast_mul]
    have n1 := cq_ne hd
    rw [e2, e3]
    simp only [Rat.div_def]
    grind
/-- at most k, and at least k + 1 -/
theorem tails (f : Nat → Rat) (k n : Nat) : qs (fun i => if i ≤ k then f i else 0) n + qs (fun i => if k + 1 ≤ i then f i else 0) n = qs f n := by
  rw [← qs_add]
  refine qs_congr fun i _ => ?_
  by_cases h : i ≤ k
  · rw [if_pos h, if_neg (by omega)]; grind
  · rw [if_neg h, if_pos (by omega)]; grind
/-- the two-sided sum -/
def both (f : Nat → Rat) (k n : Nat) : Rat := qs (fun i => if f i ≤ f k then f i else 0) n
theorem both_le {f : Nat → Rat} {n : Nat} (h : ∀ i, i < n → 0 ≤ f i) (k : Nat) : both f k n ≤ qs f n :=
  qs_le fun i hi => by
    have := h i hi
    split <;> grind
theorem both_ge {f : Nat → Rat} {n k : Nat} (h : ∀ i, i < n → 0 ≤ f i) (hk : k < n) : f k ≤ both f k n := by
  have e := qs_one (f := fun i => if f i ≤ f k then f i else 0) (k := k) (n := n) (fun i hi => by have := h i hi; split <;> grind) hk
  rw [if_pos (by grind)] at e
  exact e
theorem both_all {f : Nat → Rat} {n k : Nat} (h : ∀ i, i < n → f i ≤ f k) : both f k n = qs f n :=
  qs_congr fun i hi => by rw [if_pos (h i hi)]
end
end Go.Proofs.Ytdihgmbldnekhaa
